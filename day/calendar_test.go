package day_test

import (
	"fmt"
	"math"
	"testing"

	"tontine/api"
	"tontine/day"
)

// 7.1: dates that are right and dates that are not, in each field.
func TestCheck(t *testing.T) {
	for _, d := range wrong() {
		want(t, "Check of "+text(d), day.Check(d).Error(), api.ErrDate.Error())
	}
	for _, year := range []int{-1, 0, 1, 2, 3, 4, 99, 100, 104, 200, 300, 400, 1582, 1600, 1700, 1800, 1900, 1996, 2000, 2023, 2024, 2100, 9600, 9900, 9996, 9999, 10000} {
		for month := -1; month <= 14; month++ {
			for d := -1; d <= 33; d++ {
				x := api.Date{Year: year, Month: month, Day: d}
				wanted := api.OK
				if !isRight(x) {
					wanted = api.ErrDate
				}
				want(t, "Check of "+text(x), day.Check(x).Error(), wanted.Error())
			}
		}
	}
}

// dateCalls are all calls that are given one date, or several; what else they are given is right.
func dateCalls() map[string]func(a, b api.Date) string {
	alone := func(call func(d api.Date) string) func(a, b api.Date) string {
		return func(a, b api.Date) string { return call(a) }
	}
	calls := map[string]func(a, b api.Date) string{
		"Check":   alone(func(d api.Date) string { return day.Check(d).Error() }),
		"Number":  alone(func(d api.Date) string { return tellInt(day.Number(d)) }),
		"Weekday": alone(func(d api.Date) string { return tellInt(day.Weekday(d)) }),
		"Days":    alone(func(d api.Date) string { return tell(day.Days(d, 0)) }),
		"Months":  alone(func(d api.Date) string { return tell(day.Months(d, 0)) }),
		"Dues":    alone(func(d api.Date) string { return tellList(day.Dues(d, 1, 0)) }),
		"Text":    alone(func(d api.Date) string { return tellText(day.Text(d)) }),
		"Between": func(a, b api.Date) string { return tellThree(day.Between(a, b)) },
	}
	for _, how := range ages {
		calls[fmt.Sprint("Age ", how)] = func(a, b api.Date) string { return tellInt(day.Age(a, b, how)) }
	}
	for _, how := range counts {
		calls[fmt.Sprint("Part ", how)] = func(a, b api.Date) string { return tellRatio(day.Part(a, b, how)) }
	}
	for _, how := range moves {
		calls[fmt.Sprint("Work ", how)] = func(a, b api.Date) string { return tell(day.Work(a, []api.Date{a, b, b}, how)) }
	}
	return calls
}

// 7.1: a date that is not right, at each place.
func TestWrongDates(t *testing.T) {
	right := on("2024-02-29")
	for name, call := range dateCalls() {
		if got := call(right, right); got == api.ErrDate.Error() {
			t.Errorf("%s of %s: %s", name, text(right), got)
		}
		two := call(right, api.Date{}) == api.ErrDate.Error() // whether it looks at the second date
		for _, d := range wrong() {
			want(t, name+" of "+text(d), call(d, right), api.ErrDate.Error())
			want(t, name+" of twice "+text(d), call(d, d), api.ErrDate.Error())
			if two {
				want(t, name+" of another date, and "+text(d), call(right, d), api.ErrDate.Error())
			}
		}
	}
	for _, name := range []string{"Between", "Age 1", "Age 2", "Age 3", "Part 1", "Part 2", "Part 3", "Part 4", "Work 1", "Work 2", "Work 3"} {
		want(t, name+" of a right date and a wrong one", dateCalls()[name](right, on("2023-02-29")), api.ErrDate.Error())
	}
}

// R1, 7.1: an error of a date comes ahead of what is wrong behind it.
func TestDatesAheadOfWhatIsBehind(t *testing.T) {
	right, early := on("2024-02-29"), on("2024-02-28")
	long := make([]api.Date, api.MaxItems+1)
	for _, d := range wrong() {
		for _, n := range []int{math.MaxInt, math.MinInt, 5000000} {
			want(t, "Days", tell(day.Days(d, n)), api.ErrDate.Error())
			want(t, "Months", tell(day.Months(d, n)), api.ErrDate.Error())
			want(t, "Dues", tellList(day.Dues(d, n, 1)), api.ErrDate.Error())
			want(t, "Dues", tellList(day.Dues(d, 1, n)), api.ErrDate.Error())
		}
		for _, how := range noWays {
			want(t, "Age", tellInt(day.Age(d, right, how)), api.ErrDate.Error())
			want(t, "Age", tellInt(day.Age(right, d, how)), api.ErrDate.Error())
			want(t, "Part", tellRatio(day.Part(d, right, how)), api.ErrDate.Error())
			want(t, "Part", tellRatio(day.Part(right, d, how)), api.ErrDate.Error())
			want(t, "Work", tell(day.Work(d, nil, how)), api.ErrDate.Error())
			want(t, "Work", tell(day.Work(d, long, how)), api.ErrDate.Error())
			want(t, "Work", tell(day.Work(right, []api.Date{early, d}, how)), api.ErrDate.Error())
		}
	}
}

// 7.2: leap years by 4, 100 and 400; lengths of months; years and months that there are none of.
func TestLeapAndLength(t *testing.T) {
	for year := 1; year <= 9999; year++ {
		want(t, fmt.Sprint("Leap ", year), tellBool(day.Leap(year)), fmt.Sprint(leap(year)))
		for month := 1; month <= 12; month++ {
			want(t, fmt.Sprint("Length ", year, month), tellInt(day.Length(year, month)), fmt.Sprint(length(year, month)))
		}
	}
	for year, wanted := range map[int]string{1: "false", 3: "false", 4: "true", 100: "false", 200: "false", 400: "true", 1600: "true", 1700: "false", 1900: "false", 2000: "true", 2023: "false", 2024: "true", 2100: "false", 9600: "true", 9900: "false", 9996: "true", 9999: "false"} {
		want(t, fmt.Sprint("Leap ", year), tellBool(day.Leap(year)), wanted)
	}
	for _, year := range []int{0, -1, -4, -400, 10000, 10004, math.MaxInt, math.MinInt} {
		want(t, fmt.Sprint("Leap ", year), tellBool(day.Leap(year)), api.ErrRange.Error())
		for _, month := range []int{-1, 0, 1, 2, 12, 13, math.MaxInt, math.MinInt} {
			want(t, fmt.Sprint("Length ", year, month), tellInt(day.Length(year, month)), api.ErrRange.Error())
		}
	}
	for _, month := range []int{0, -1, 13, 14, 25, math.MaxInt, math.MinInt} {
		want(t, fmt.Sprint("Length ", month), tellInt(day.Length(2024, month)), api.ErrRange.Error())
	}
}

// 7.3, 7.10, 7.11: the whole calendar, day by day: numbers, dates, weekdays and texts go on, and lead back.
func TestWholeCalendar(t *testing.T) {
	d, before := on("1-1-1"), ""
	for n := 1; n <= last; n++ {
		got, e := day.FromNumber(n)
		if got != d || e != api.OK {
			t.Fatalf("FromNumber(%d): %s, want %s", n, tell(got, e), text(d))
		}
		if m, e := day.Number(d); m != n || e != api.OK {
			t.Fatalf("Number(%s): %s, want %d", text(d), tellInt(m, e), n)
		}
		if w, e := day.Weekday(d); w != 1+(n-1)%7 || e != api.OK {
			t.Fatalf("Weekday(%s): %s", text(d), tellInt(w, e))
		}
		s, e := day.Text(d)
		if len(s) != 10 || s <= before || e != api.OK {
			t.Fatalf("Text(%s): %s, behind %s", text(d), tellText(s, e), before)
		}
		if p, e := day.Parse(s); p != d || e != api.OK {
			t.Fatalf("Parse(%s): %s", s, tell(p, e))
		}
		d, before = next(d), s
	}
	want(t, "the day behind the last one", text(d), "10000-01-01")
}

// 7.3: numbers that no date has, and the first and the last one that one has.
func TestNumbersAtTheEnds(t *testing.T) {
	want(t, "FromNumber 1", tell(day.FromNumber(1)), "0001-01-01")
	want(t, "FromNumber, the last", tell(day.FromNumber(last)), "9999-12-31")
	for _, n := range []int{0, -1, -365, -last, last + 1, last + 366, 2 * last, math.MaxInt, math.MinInt} {
		want(t, fmt.Sprint("FromNumber ", n), tell(day.FromNumber(n)), api.ErrRange.Error())
	}
}

// 7.3: weekdays that are known.
func TestWeekdays(t *testing.T) {
	for s, wanted := range map[string]string{"0001-01-01": "1", "0001-01-07": "7", "1582-10-15": "5", "1900-01-01": "1", "1970-01-01": "4", "2000-01-01": "6", "2024-03-31": "7", "9999-12-31": "5"} {
		want(t, "Weekday of "+s, tellInt(day.Weekday(on(s))), wanted)
	}
}

// 7.11: 400 years have 146097 days, and so the same weekdays.
func TestFourHundredYears(t *testing.T) {
	r := random(71)
	for range 3000 {
		d := anyDate(r)
		if d.Year > 9599 {
			continue
		}
		far := d
		far.Year += 400
		if n := number(t, far) - number(t, d); n != 146097 {
			t.Errorf("from %s to %s: %d days", text(d), text(far), n)
		}
		want(t, "Weekday of "+text(far), tellInt(day.Weekday(far)), tellInt(day.Weekday(d)))
	}
}
