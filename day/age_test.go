package day_test

import (
	"fmt"
	"testing"

	"tontine/api"
	"tontine/day"
)

// ageOf is what 7.5 says: birthdays are gone through one by one, and days are counted one by one.
func ageOf(birth, on api.Date, how int) int {
	n := 0
	for !isBehind(monthsOn(birth, 12*(n+1)), on) {
		n++
	}
	before, after := monthsOn(birth, 12*n), monthsOn(birth, 12*(n+1))
	switch {
	case how == api.AgeNext && before != on:
		return n + 1
	case how == api.AgeNear && between(on, after) <= between(before, on):
		return n + 1
	}
	return n
}

// 7.5: ages of any dates.
func TestAge(t *testing.T) {
	r := random(78)
	for i := range 1500 {
		birth := anyDate(r)
		on := later(r, birth, 1500)
		if i%10 == 0 {
			on = later(r, birth, 30000)
		}
		for _, how := range ages {
			want(t, fmt.Sprint("Age ", text(birth), " ", text(on), " ", how), tellInt(day.Age(birth, on, how)), fmt.Sprint(ageOf(birth, on, how)))
		}
	}
}

// 7.5: on, ahead of and behind a birthday; of one born on February 29; two birthdays as near as each other; behind the calendar's end.
func TestAgeOneByOne(t *testing.T) {
	for _, c := range []struct{ birth, on, last, next, near string }{
		{"1990-06-15", "1990-06-15", "0", "0", "0"}, {"1990-06-15", "1990-06-16", "0", "1", "0"}, {"1990-06-15", "1991-06-14", "0", "1", "1"}, {"1990-06-15", "1991-06-15", "1", "1", "1"},
		{"1990-06-15", "2024-06-14", "33", "34", "34"}, {"1990-06-15", "2024-06-15", "34", "34", "34"}, {"1990-06-15", "2024-06-16", "34", "35", "34"},
		// 366 days from birthday to birthday: 183 days behind the first one is the middle.
		{"1990-06-15", "2023-12-14", "33", "34", "33"}, {"1990-06-15", "2023-12-15", "33", "34", "34"}, {"1990-06-15", "2023-12-16", "33", "34", "34"},
		// 365 days: no day is the middle.
		{"1990-06-15", "2024-12-14", "34", "35", "34"}, {"1990-06-15", "2024-12-15", "34", "35", "35"},
		{"2000-02-29", "2001-02-27", "0", "1", "1"}, {"2000-02-29", "2001-02-28", "1", "1", "1"}, {"2000-02-29", "2001-03-01", "1", "2", "1"}, {"2000-02-29", "2004-02-28", "3", "4", "4"}, {"2000-02-29", "2004-02-29", "4", "4", "4"}, {"2000-02-29", "2004-03-01", "4", "5", "4"}, {"2000-02-29", "2100-02-28", "100", "100", "100"},
		{"2000-02-28", "2004-02-28", "4", "4", "4"}, {"2000-03-01", "2004-02-29", "3", "4", "4"}, {"2000-03-01", "2001-02-28", "0", "1", "1"}, {"2000-12-31", "2001-12-30", "0", "1", "1"}, {"2000-12-31", "2001-01-01", "0", "1", "0"},
		{"0001-01-01", "9999-12-31", "9998", "9999", "9999"}, {"0001-12-31", "9999-12-31", "9998", "9998", "9998"}, {"0001-01-01", "9999-01-01", "9998", "9998", "9998"},
		{"9999-12-31", "9999-12-31", "0", "0", "0"}, {"9999-01-01", "9999-12-31", "0", "1", "1"}, {"9999-07-01", "9999-12-31", "0", "1", "1"}, {"9999-07-02", "9999-12-31", "0", "1", "0"},
		// The year 10000 would be a leap year: from 9999-06-30 to the next birthday there are 366 days.
		{"9999-06-30", "9999-12-29", "0", "1", "0"}, {"9999-06-30", "9999-12-30", "0", "1", "1"}, {"9999-03-01", "9999-12-31", "0", "1", "1"}, {"9996-02-29", "9999-02-28", "3", "3", "3"}, {"9996-02-29", "9999-08-29", "3", "4", "3"}, {"9996-02-29", "9999-08-30", "3", "4", "4"}, {"9996-02-29", "9999-12-31", "3", "4", "4"},
	} {
		birth, at := on(c.birth), on(c.on)
		for how, wanted := range map[int]string{api.AgeLast: c.last, api.AgeNext: c.next, api.AgeNear: c.near} {
			want(t, fmt.Sprint("Age ", c.birth, " ", c.on, " ", how), tellInt(day.Age(birth, at, how)), wanted)
			if at.Year-birth.Year < 200 {
				want(t, fmt.Sprint("the day-wise age ", c.birth, " ", c.on, " ", how), fmt.Sprint(ageOf(birth, at, how)), wanted)
			}
		}
	}
}

// 7.5: a day ahead of the birth, and ways that are none.
func TestAgeOfWrongThings(t *testing.T) {
	r := random(79)
	for range 300 {
		birth := anyDate(r)
		if early := previous(birth); early.Year > 0 {
			for _, how := range append(noWays, 1, 2, 3, 4) {
				want(t, "Age ahead of birth", tellInt(day.Age(birth, early, how)), api.ErrRange.Error())
			}
		}
		for _, how := range append(noWays, 4) {
			want(t, "Age by no way", tellInt(day.Age(birth, birth, how)), api.ErrRange.Error())
			want(t, "Age by no way", tellInt(day.Age(birth, later(r, birth, 500), how)), api.ErrRange.Error())
		}
	}
	want(t, "Age ahead of birth", tellInt(day.Age(on("9999-12-31"), on("0001-01-01"), api.AgeLast)), api.ErrRange.Error())
}

// 7.13: n years old just from the n-th birthday up to the day ahead of the next one; ages rise by the day; at the next birthday at most one more; at the nearest either.
func TestAgesDayByDay(t *testing.T) {
	for _, birth := range list("1999-01-01 1999-02-28 2000-02-28 2000-02-29 2000-03-01 1999-12-31 1896-02-29 9990-02-28 9988-02-29 9991-06-30") {
		d, n, before := birth, 0, [4]int{}
		for d.Year < birth.Year+9 && d.Year <= 9999 {
			if d == monthsOn(birth, 12*(n+1)) {
				n++
			}
			var got [4]int
			for _, how := range ages {
				age, e := day.Age(birth, d, how)
				if e != api.OK || age < before[how] || age > before[how]+1 {
					t.Fatalf("Age %s %s %d: %s, behind %d", text(birth), text(d), how, tellInt(age, e), before[how])
				}
				got[how] = age
			}
			least, most := got[api.AgeLast], got[api.AgeNext]
			if least != n || most < n || most > n+1 || got[api.AgeNear] < n || got[api.AgeNear] > most {
				t.Fatalf("ages of %s on %s: %v, want %d", text(birth), text(d), got, n)
			}
			d, before = next(d), got
		}
	}
}

// spanOf is what 7.6 says, gone year by year, month by month, day by day.
func spanOf(a, b api.Date) string {
	years, months := 0, 0
	for !isBehind(monthsOn(a, 12*(years+1)), b) {
		years++
	}
	for months < 11 && !isBehind(monthsOn(a, 12*years+months+1), b) {
		months++
	}
	return fmt.Sprint(years, " ", months, " ", between(monthsOn(a, 12*years+months), b))
}

// 7.6: years, months and days of any two dates.
func TestBetween(t *testing.T) {
	r := random(80)
	for i := range 3000 {
		a := anyDate(r)
		b := later(r, a, 200)
		if i%4 == 0 {
			b = later(r, a, 4000)
		}
		want(t, "Between "+text(a)+" "+text(b), tellThree(day.Between(a, b)), spanOf(a, b))
	}
	for _, c := range []struct{ a, b, wanted string }{
		{"2024-02-29", "2024-02-29", "0 0 0"}, {"2024-01-31", "2024-02-28", "0 0 28"}, {"2024-01-31", "2024-02-29", "0 1 0"}, {"2024-01-31", "2024-03-30", "0 1 30"}, {"2024-01-31", "2024-03-31", "0 2 0"}, {"2024-01-31", "2024-04-30", "0 3 0"}, {"2023-01-31", "2023-02-28", "0 1 0"}, {"2023-01-29", "2023-03-01", "0 1 1"},
		{"2023-12-31", "2024-12-30", "0 11 30"}, {"2023-12-31", "2024-12-31", "1 0 0"}, {"2024-02-29", "2025-02-27", "0 11 29"}, {"2024-02-29", "2025-02-28", "1 0 0"}, {"2024-02-29", "2028-02-28", "3 11 30"}, {"2024-02-29", "2028-02-29", "4 0 0"}, {"2024-12-31", "2025-01-01", "0 0 1"},
		{"0001-01-01", "9999-12-31", "9998 11 30"}, {"0001-01-01", "9999-01-01", "9998 0 0"}, {"9999-12-31", "9999-12-31", "0 0 0"}, {"0001-01-31", "9999-12-30", "9998 10 30"},
	} {
		want(t, "Between "+c.a+" "+c.b, tellThree(day.Between(on(c.a), on(c.b))), c.wanted)
	}
}

// 7.6: b ahead of a.
func TestBetweenOfWrongThings(t *testing.T) {
	r := random(81)
	for range 300 {
		a := anyDate(r)
		if b := previous(a); b.Year > 0 {
			want(t, "Between "+text(a)+" "+text(b), tellThree(day.Between(a, b)), api.ErrRange.Error())
		}
	}
	for _, c := range [][2]string{{"2024-02-01", "2024-01-31"}, {"2024-01-01", "2023-12-31"}, {"9999-12-31", "0001-01-01"}} {
		want(t, "Between "+c[0]+" "+c[1], tellThree(day.Between(on(c[0]), on(c[1]))), api.ErrRange.Error())
	}
}

// 7.12: what is Between, put together, leads back: years and months on, then days later, is b.
func TestBetweenLeadsBack(t *testing.T) {
	r := random(82)
	for range 4000 {
		a, b := anyDate(r), anyDate(r)
		if isBehind(a, b) {
			a, b = b, a
		}
		years, months, days, e := day.Between(a, b)
		if e != api.OK || months < 0 || months > 11 || days < 0 || days > 30 {
			t.Errorf("Between %s %s: %s", text(a), text(b), tellThree(years, months, days, e))
		}
		there, _ := day.Months(a, 12*years+months)
		want(t, "Between "+text(a)+" "+text(b)+", put together", tell(day.Days(there, days)), text(b))
	}
}
