package day_test

import (
	"fmt"
	"math"
	"math/rand"
	"strconv"
	"strings"
	"testing"

	"tontine/api"
	"tontine/day"
)

// last is the number of the calendar's last day.
const last = 3652059

var (
	ages   = []int{api.AgeLast, api.AgeNext, api.AgeNear}
	counts = []int{api.Count365, api.Count360, api.CountYears, api.CountThird}
	moves  = []int{api.MoveOn, api.MoveBack, api.MoveIn}
)

// noWays are numbers that are no way of ages, of counts or of moves; of counts 4 is one.
var noWays = []int{0, -1, 5, math.MinInt, math.MaxInt}

// on is the date of a text, as it stands: it may be a wrong one.
func on(text string) api.Date {
	var d api.Date
	if _, err := fmt.Sscanf(text, "%d-%d-%d", &d.Year, &d.Month, &d.Day); err != nil {
		panic(err)
	}
	return d
}

// list is the dates of a text, with spaces between them.
func list(texts string) []api.Date {
	var l []api.Date
	for _, s := range strings.Fields(texts) {
		l = append(l, on(s))
	}
	return l
}

// wrong are dates that are not right, in each of their fields.
func wrong() []api.Date {
	var l []api.Date
	for _, n := range []int{0, -1, -4, -400, 10000, 10004, 12000, math.MaxInt, math.MinInt} {
		l = append(l, api.Date{Year: n, Month: 1, Day: 1})
	}
	for _, n := range []int{0, -1, 13, 24, math.MaxInt, math.MinInt} {
		l = append(l, api.Date{Year: 2024, Month: n, Day: 1})
	}
	for _, n := range []int{0, -1, 32, 61, math.MaxInt, math.MinInt} {
		l = append(l, api.Date{Year: 2024, Month: 1, Day: n})
	}
	l = append(l, list("2023-2-29 1900-2-29 2100-2-29 9999-2-29 1-2-29 2024-2-30 2000-2-30 2024-2-31 2024-4-31 2024-6-31 2024-9-31 2024-11-31 9999-12-32 10000-1-1 10000-2-29")...)
	return append(l, api.Date{}, api.Date{Year: math.MinInt, Month: math.MinInt, Day: math.MinInt}, api.Date{Year: math.MaxInt, Month: math.MaxInt, Day: math.MaxInt})
}

func want(t *testing.T, what, got, want string) {
	t.Helper()
	if got != want {
		t.Errorf("%s: %s, want %s", what, got, want)
	}
}

// text is a date, as it stands.
func text(d api.Date) string { return fmt.Sprintf("%04d-%02d-%02d", d.Year, d.Month, d.Day) }

// tell is what a call answered, as a text; what stands beside an error must be nothing (R5).
func tell(d api.Date, e api.Errno) string {
	return told(text(d), e, d == api.Date{})
}

func tellInt(n int, e api.Errno) string { return told(strconv.Itoa(n), e, n == 0) }

func tellBool(b bool, e api.Errno) string { return told(strconv.FormatBool(b), e, !b) }

func tellText(s string, e api.Errno) string { return told(s, e, s == "") }

func tellRatio(r api.Ratio, e api.Errno) string {
	return told(r.Num+"/"+r.Den, e, r == api.Ratio{})
}

func tellThree(years, months, days int, e api.Errno) string {
	return told(fmt.Sprint(years, " ", months, " ", days), e, years == 0 && months == 0 && days == 0)
}

func tellList(l []api.Date, e api.Errno) string {
	texts := make([]string, len(l))
	for i, d := range l {
		texts[i] = text(d)
	}
	return told(strings.Join(texts, " "), e, len(l) == 0)
}

func told(answer string, e api.Errno, isNothing bool) string {
	switch {
	case e == api.OK:
		return answer
	case !isNothing:
		return "something beside " + e.Error()
	}
	return e.Error()
}

func random(seed int64) *rand.Rand { return rand.New(rand.NewSource(seed)) }

// leap tells whether it is a leap year, however late.
func leap(year int) bool {
	if year%100 == 0 {
		return year%400 == 0
	}
	return year%4 == 0
}

// length is how many days the month has.
func length(year, month int) int {
	switch month {
	case 4, 6, 9, 11:
		return 30
	case 2:
		if leap(year) {
			return 29
		}
		return 28
	}
	return 31
}

// isRight tells whether a date is right.
func isRight(d api.Date) bool {
	return d.Year >= 1 && d.Year <= 9999 && d.Month >= 1 && d.Month <= 12 && d.Day >= 1 && d.Day <= length(d.Year, d.Month)
}

// next is the day behind d, behind the calendar's end too.
func next(d api.Date) api.Date {
	switch {
	case d.Day < length(d.Year, d.Month):
		d.Day++
	case d.Month < 12:
		d.Month, d.Day = d.Month+1, 1
	default:
		d.Year, d.Month, d.Day = d.Year+1, 1, 1
	}
	return d
}

// previous is the day ahead of d.
func previous(d api.Date) api.Date {
	switch {
	case d.Day > 1:
		d.Day--
	case d.Month > 1:
		d.Month--
		d.Day = length(d.Year, d.Month)
	default:
		d.Year, d.Month, d.Day = d.Year-1, 12, 31
	}
	return d
}

// isBehind tells whether a is behind b, by their fields.
func isBehind(a, b api.Date) bool {
	switch {
	case a.Year != b.Year:
		return a.Year > b.Year
	case a.Month != b.Month:
		return a.Month > b.Month
	}
	return a.Day > b.Day
}

// between is how many days there are from a to b, which is not ahead of a, counted one by one.
func between(a, b api.Date) int {
	n := 0
	for isBehind(b, a) {
		a = next(a)
		n++
	}
	return n
}

// monthsOn is n months on from d, gone month by month; out of the calendar, and back, if need be.
func monthsOn(d api.Date, n int) api.Date {
	year, month := d.Year, d.Month
	for ; n > 0; n-- {
		if month++; month == 13 {
			year, month = year+1, 1
		}
	}
	for ; n < 0; n++ {
		if month--; month == 0 {
			year, month = year-1, 12
		}
	}
	return api.Date{Year: year, Month: month, Day: min(d.Day, length(year, month))}
}

// expected is a date, or the error, if it lies beyond the calendar.
func expected(d api.Date) string {
	if d.Year < 1 || d.Year > 9999 {
		return api.ErrRange.Error()
	}
	return text(d)
}

// anyDate is one of the calendar: often at a month's or a year's end, in February, or at the calendar's ends.
func anyDate(r *rand.Rand) api.Date {
	d := api.Date{Year: 1 + r.Intn(9999), Month: 1 + r.Intn(12)}
	switch r.Intn(5) {
	case 0:
		d.Year = []int{1, 2, 4, 96, 100, 400, 1900, 2000, 2023, 2024, 9600, 9900, 9996, 9998, 9999}[r.Intn(15)]
	case 1:
		d.Month = 2
	}
	d.Day = 1 + r.Intn(length(d.Year, d.Month))
	switch r.Intn(5) {
	case 0:
		d.Day = length(d.Year, d.Month)
	case 1:
		d.Day = 1
	case 2:
		d.Day = max(1, length(d.Year, d.Month)-1)
	}
	return d
}

// later is a date at most so many days behind d, within the calendar.
func later(r *rand.Rand, d api.Date, days int) api.Date {
	for range r.Intn(days + 1) {
		if n := next(d); n.Year <= 9999 {
			d = n
		}
	}
	return d
}

// number is what Number tells of a date that is right.
func number(t *testing.T, d api.Date) int {
	t.Helper()
	n, e := day.Number(d)
	if e != api.OK {
		t.Fatalf("Number(%s): %s", text(d), e.Error())
	}
	return n
}
