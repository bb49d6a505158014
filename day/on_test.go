package day_test

import (
	"fmt"
	"math"
	"testing"

	"tontine/api"
	"tontine/day"
)

// 7.3: days of either sign, gone one by one.
func TestDays(t *testing.T) {
	r := random(72)
	for range 60 {
		start := anyDate(r)
		forth, back := start, start
		for n := range 800 {
			want(t, fmt.Sprint("Days ", text(start), " ", n), tell(day.Days(start, n)), expected(forth))
			want(t, fmt.Sprint("Days ", text(start), " ", -n), tell(day.Days(start, -n)), expected(back))
			if forth, back = next(forth), previous(back); forth.Year > 9999 || back.Year < 1 {
				break
			}
		}
	}
}

// 7.1, 7.3: days up to the calendar's ends, one beyond, and far beyond.
func TestDaysAtTheEnds(t *testing.T) {
	r := random(73)
	for range 500 {
		d := anyDate(r)
		n := number(t, d)
		want(t, "Days to the first day", tell(day.Days(d, 1-n)), "0001-01-01")
		want(t, "Days to the last day", tell(day.Days(d, last-n)), "9999-12-31")
		for _, far := range []int{-n, -n - 1, last - n + 1, last, -last, math.MaxInt, math.MaxInt - n, math.MinInt, math.MinInt + n} {
			want(t, fmt.Sprint("Days ", text(d), " ", far), tell(day.Days(d, far)), api.ErrRange.Error())
		}
	}
	want(t, "Days, from end to end", tell(day.Days(on("0001-01-01"), last-1)), "9999-12-31")
	want(t, "Days, from end to end", tell(day.Days(on("9999-12-31"), 1-last)), "0001-01-01")
	want(t, "Days, one beyond", tell(day.Days(on("9999-12-31"), 1)), api.ErrRange.Error())
	want(t, "Days, one beyond", tell(day.Days(on("0001-01-01"), -1)), api.ErrRange.Error())
}

// 7.3: months of either sign, gone one by one.
func TestMonths(t *testing.T) {
	r := random(74)
	for range 4000 {
		d, n := anyDate(r), r.Intn(60)-30
		if r.Intn(4) == 0 {
			n = r.Intn(4000) - 2000
		}
		want(t, fmt.Sprint("Months ", text(d), " ", n), tell(day.Months(d, n)), expected(monthsOn(d, n)))
	}
	for _, c := range []struct {
		from string
		n    int
		to   string
	}{
		{"2024-01-31", 1, "2024-02-29"}, {"2023-01-31", 1, "2023-02-28"}, {"2023-01-29", 1, "2023-02-28"}, {"2023-01-28", 1, "2023-02-28"}, {"1900-01-30", 1, "1900-02-28"}, {"2000-01-30", 1, "2000-02-29"},
		{"2024-02-29", 12, "2025-02-28"}, {"2024-02-29", 48, "2028-02-29"}, {"2024-02-29", -12, "2023-02-28"}, {"2024-02-28", -48, "2020-02-28"}, {"1896-02-29", 48, "1900-02-28"}, {"2024-03-31", -1, "2024-02-29"}, {"2024-05-31", 1, "2024-06-30"}, {"2024-12-31", 1, "2025-01-31"}, {"2024-01-31", -1, "2023-12-31"}, {"2024-01-15", 0, "2024-01-15"},
	} {
		want(t, fmt.Sprint("Months ", c.from, " ", c.n), tell(day.Months(on(c.from), c.n)), c.to)
	}
}

// 7.1, 7.3: months out of the calendar and back to its last day; numbers that leave an int.
func TestMonthsAtTheEnds(t *testing.T) {
	r := random(75)
	for range 500 {
		d := anyDate(r)
		ahead := 12*(d.Year-1) + d.Month - 1
		behind := 12*9999 - 1 - ahead
		want(t, "Months to the first month", tell(day.Months(d, -ahead)), text(api.Date{Year: 1, Month: 1, Day: d.Day}))
		want(t, "Months to the last month", tell(day.Months(d, behind)), text(api.Date{Year: 9999, Month: 12, Day: d.Day}))
		for _, far := range []int{-ahead - 1, -ahead - 12, behind + 1, behind + 12, 12 * 9999, -12 * 9999, math.MaxInt, math.MaxInt - ahead, math.MinInt, math.MinInt + behind, math.MaxInt - 12, math.MinInt + 12} {
			want(t, fmt.Sprint("Months ", text(d), " ", far), tell(day.Months(d, far)), api.ErrRange.Error())
		}
	}
	want(t, "Months, from end to end", tell(day.Months(on("0001-01-31"), 12*9999-1)), "9999-12-31")
	want(t, "Months, from end to end", tell(day.Months(on("9999-12-31"), 1-12*9999)), "0001-01-31")
	want(t, "Months, one beyond", tell(day.Months(on("9999-12-31"), 1)), api.ErrRange.Error())
	want(t, "Months, one beyond", tell(day.Months(on("9999-12-01"), 1)), api.ErrRange.Error())
	want(t, "Months, one beyond", tell(day.Months(on("0001-01-31"), -1)), api.ErrRange.Error())
}

// 7.12: m months on, and then n, is m + n months on, but for a Day that was lost; it never lies behind that.
func TestMonthsGoTogether(t *testing.T) {
	r := random(76)
	for range 4000 {
		d, m, n := anyDate(r), r.Intn(100)-50, r.Intn(100)-50
		first, e := day.Months(d, m)
		second, e2 := day.Months(first, n)
		whole, e3 := day.Months(d, m+n)
		if e != api.OK || e2 != api.OK || e3 != api.OK {
			continue
		}
		if first.Day == d.Day && second != whole {
			t.Errorf("%s: %d and then %d months on is %s, and at once %s", text(d), m, n, text(second), text(whole))
		}
		if second.Year != whole.Year || second.Month != whole.Month || second.Day > whole.Day {
			t.Errorf("%s: %d and then %d months on is %s, and at once %s", text(d), m, n, text(second), text(whole))
		}
	}
}

// 7.4: dues of each first day, with last days of months that come back.
func TestDues(t *testing.T) {
	r := random(77)
	for range 1000 {
		first, every, count := anyDate(r), 1+r.Intn(40), r.Intn(30)
		var wanted []api.Date
		for k := range count {
			wanted = append(wanted, monthsOn(first, every*k))
		}
		answer := tellList(wanted, api.OK)
		if count > 0 && wanted[count-1].Year > 9999 {
			answer = api.ErrRange.Error()
		}
		want(t, fmt.Sprint("Dues ", text(first), every, count), tellList(day.Dues(first, every, count)), answer)
	}
	for _, c := range []struct {
		first        string
		every, count int
		dues         string
	}{
		{"2024-01-31", 1, 4, "2024-01-31 2024-02-29 2024-03-31 2024-04-30"}, {"2023-10-31", 3, 4, "2023-10-31 2024-01-31 2024-04-30 2024-07-31"}, {"2024-02-29", 12, 5, "2024-02-29 2025-02-28 2026-02-28 2027-02-28 2028-02-29"},
		{"2024-01-31", 1200, 2, "2024-01-31 2124-01-31"}, {"2024-01-31", 1, 1, "2024-01-31"}, {"2024-01-31", 1, 0, ""}, {"2024-01-31", 1200, 0, ""},
		{"9999-12-31", 1200, 1, "9999-12-31"}, {"9999-12-31", 1, 0, ""}, {"9999-10-31", 1, 3, "9999-10-31 9999-11-30 9999-12-31"}, {"9899-12-31", 1200, 2, "9899-12-31 9999-12-31"},
	} {
		want(t, fmt.Sprint("Dues ", c.first, c.every, c.count), tellList(day.Dues(on(c.first), c.every, c.count)), c.dues)
	}
}

// 7.4: numbers at the ends of their ranges, and one beyond; dues beyond the calendar.
func TestDuesAtTheEnds(t *testing.T) {
	first := on("0001-01-31")
	many, e := day.Dues(first, 29, api.MaxItems)
	if e != api.OK || len(many) != api.MaxItems {
		t.Fatalf("%d dues: %s", len(many), e.Error())
	}
	for k, d := range many {
		if wanted := monthsOn(first, 29*k); d != wanted {
			t.Fatalf("due %d: %s, want %s", k, text(d), text(wanted))
		}
	}
	for _, every := range []int{0, -1, 1201, 1 << 20, math.MaxInt, math.MinInt} {
		for _, count := range []int{0, 1, 3} {
			want(t, fmt.Sprint("Dues, every ", every), tellList(day.Dues(first, every, count)), api.ErrRange.Error())
		}
	}
	for _, count := range []int{-1, api.MaxItems + 1, math.MaxInt, math.MinInt} {
		want(t, fmt.Sprint("Dues, so many: ", count), tellList(day.Dues(first, 1, count)), api.ErrRange.Error())
	}
	for _, c := range []struct {
		first        string
		every, count int
	}{{"9999-12-01", 1, 2}, {"9999-12-31", 1, 2}, {"9999-10-31", 1, 4}, {"9900-01-01", 1200, 2}, {"0001-01-01", 1200, 101}, {"0001-01-01", 1200, api.MaxItems}, {"0001-01-01", 30, api.MaxItems}} {
		want(t, fmt.Sprint("Dues ", c.first, c.every, c.count), tellList(day.Dues(on(c.first), c.every, c.count)), api.ErrRange.Error())
	}
	hundred, e := day.Dues(on("0001-01-01"), 1200, 100)
	want(t, "the last of a hundred dues", tell(hundred[len(hundred)-1], e), "9901-01-01")
}
