package day_test

import (
	"fmt"
	"math/big"
	"testing"

	"tontine/api"
	"tontine/day"
)

// partOf is what 7.7 says, counted day by day.
func partOf(a, b api.Date, how int) string {
	days, leaps := 0, 0
	for d := a; d != b; d = next(d) {
		if days++; leap(d.Year) {
			leaps++
		}
	}
	var part *big.Rat
	switch how {
	case api.Count365:
		part = big.NewRat(int64(days), 365)
	case api.Count360:
		part = big.NewRat(int64(days), 360)
	case api.CountYears:
		part = new(big.Rat).Add(big.NewRat(int64(leaps), 366), big.NewRat(int64(days-leaps), 365))
	case api.CountThird:
		if a.Day == 31 {
			a.Day = 30
		}
		if b.Day == 31 {
			b.Day = 30
		}
		part = big.NewRat(int64(360*(b.Year-a.Year)+30*(b.Month-a.Month)+b.Day-a.Day), 360)
	}
	return part.String()
}

// 7.7: parts of any two dates, by each of the four ways.
func TestPart(t *testing.T) {
	r := random(83)
	for i := range 1200 {
		a := anyDate(r)
		b := later(r, a, 1000)
		if i%10 == 0 {
			b = later(r, a, 50000)
		}
		for _, how := range counts {
			want(t, fmt.Sprint("Part ", text(a), " ", text(b), " ", how), tellRatio(day.Part(a, b, how)), partOf(a, b, how))
		}
	}
	first, end := on("0001-01-01"), on("9999-12-31")
	for _, how := range counts {
		want(t, fmt.Sprint("Part of the whole calendar ", how), tellRatio(day.Part(first, end, how)), partOf(first, end, how))
	}
}

// 7.7: over years' ends, in leap years and others, of days 31.
func TestPartOneByOne(t *testing.T) {
	for _, c := range []struct{ a, b, by365, by360, years, third string }{
		{"2024-02-29", "2024-02-29", "0/1", "0/1", "0/1", "0/1"},
		{"2023-01-01", "2024-01-01", "1/1", "73/72", "1/1", "1/1"}, {"2024-01-01", "2025-01-01", "366/365", "61/60", "1/1", "1/1"}, {"1900-01-01", "1901-01-01", "1/1", "73/72", "1/1", "1/1"}, {"2000-01-01", "2001-01-01", "366/365", "61/60", "1/1", "1/1"},
		{"2023-12-31", "2024-01-01", "1/365", "1/360", "1/365", "1/360"}, {"2024-12-31", "2025-01-01", "1/365", "1/360", "1/366", "1/360"}, {"2024-02-28", "2024-03-01", "2/365", "1/180", "1/183", "1/120"}, {"2023-02-28", "2023-03-01", "1/365", "1/360", "1/365", "1/120"},
		{"2024-01-30", "2024-01-31", "1/365", "1/360", "1/366", "0/1"}, {"2024-01-31", "2024-02-01", "1/365", "1/360", "1/366", "1/360"}, {"2024-01-30", "2024-02-01", "2/365", "1/180", "1/183", "1/360"}, {"2024-01-31", "2024-03-31", "12/73", "1/6", "10/61", "1/6"}, {"2024-01-15", "2024-01-31", "16/365", "2/45", "8/183", "1/24"}, {"2024-02-29", "2024-03-31", "31/365", "31/360", "31/366", "31/360"},
		{"2023-07-01", "2024-07-01", "366/365", "61/60", "66887/66795", "1/1"}, {"2024-07-01", "2025-07-01", "1/1", "73/72", "66703/66795", "1/1"},
	} {
		a, b := on(c.a), on(c.b)
		for how, wanted := range map[int]string{api.Count365: c.by365, api.Count360: c.by360, api.CountYears: c.years, api.CountThird: c.third} {
			what := fmt.Sprint("Part ", c.a, " ", c.b, " ", how)
			want(t, what+", counted day by day", partOf(a, b, how), wanted)
			want(t, what, tellRatio(day.Part(a, b, how)), wanted)
		}
	}
}

// 7.7: b ahead of a, and ways that are none.
func TestPartOfWrongThings(t *testing.T) {
	r := random(84)
	for range 300 {
		a := anyDate(r)
		if b := previous(a); b.Year > 0 {
			for _, how := range append(noWays, counts...) {
				want(t, fmt.Sprint("Part back ", how), tellRatio(day.Part(a, b, how)), api.ErrRange.Error())
			}
		}
		for _, how := range noWays {
			want(t, fmt.Sprint("Part by no way ", how), tellRatio(day.Part(a, a, how)), api.ErrRange.Error())
			want(t, fmt.Sprint("Part by no way ", how), tellRatio(day.Part(a, later(r, a, 500), how)), api.ErrRange.Error())
		}
	}
	want(t, "Part back, as if of months", tellRatio(day.Part(on("2024-01-31"), on("2024-01-30"), api.CountThird)), api.ErrRange.Error())
}

// 7.14: parts of three days go together, by all ways but CountThird; by CountYears a whole calendar year is 1.
func TestPartsGoTogether(t *testing.T) {
	r := random(85)
	for range 1500 {
		a := anyDate(r)
		b := later(r, a, 900)
		c := later(r, b, 900)
		for _, how := range []int{api.Count365, api.Count360, api.CountYears} {
			sum := new(big.Rat).Add(part(t, a, b, how), part(t, b, c, how))
			want(t, fmt.Sprint("parts ", text(a), " ", text(b), " ", text(c), " ", how), sum.String(), part(t, a, c, how).String())
		}
	}
	for year := 1; year < 9999; year++ {
		a, b := api.Date{Year: year, Month: 1, Day: 1}, api.Date{Year: year + 1, Month: 1, Day: 1}
		want(t, fmt.Sprint("the part of the year ", year), tellRatio(day.Part(a, b, api.CountYears)), "1/1")
	}
}

func part(t *testing.T, a, b api.Date, how int) *big.Rat {
	t.Helper()
	p, e := day.Part(a, b, how)
	x, ok := new(big.Rat).SetString(p.Num + "/" + p.Den)
	if e != api.OK || !ok {
		t.Fatalf("Part %s %s: %s", text(a), text(b), tellRatio(p, e))
	}
	return x
}
