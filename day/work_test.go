package day_test

import (
	"fmt"
	"math/rand"
	"testing"

	"tontine/api"
	"tontine/day"
)

// isWeekend tells whether a day is a Saturday or a Sunday, by Sakamoto's rule.
func isWeekend(d api.Date) bool {
	t := [...]int{0, 3, 2, 5, 0, 3, 5, 1, 4, 6, 2, 4}
	year := d.Year
	if d.Month < 3 {
		year--
	}
	w := (year + year/4 - year/100 + year/400 + t[d.Month-1] + d.Day) % 7
	return w == 0 || w == 6
}

// workOf is what 7.9 says, gone day by day.
func workOf(d api.Date, free []api.Date, how int) string {
	closed := map[api.Date]int{}
	for _, f := range free {
		closed[f] = 1
	}
	move := func(step func(api.Date) api.Date) api.Date {
		x := d
		for x.Year >= 1 && x.Year <= 9999 && (isWeekend(x) || closed[x] > 0) {
			x = step(x)
		}
		return x
	}
	forth, back := move(next), move(previous)
	switch {
	case how == api.MoveOn:
		return expected(forth)
	case how == api.MoveIn && forth.Year == d.Year && forth.Month == d.Month:
		return text(forth)
	}
	return expected(back)
}

// days is so many days from d on, within the calendar.
func days(d api.Date, n int) []api.Date {
	var l []api.Date
	for range n {
		if isRight(d) {
			l = append(l, d)
		}
		d = next(d)
	}
	return l
}

func shuffled(r *rand.Rand, l []api.Date) []api.Date {
	r.Shuffle(len(l), func(i, j int) { l[i], l[j] = l[j], l[i] })
	return l
}

// 7.9, 7.15: any day, with free days about it, in any order, some of them twice or at weekends.
func TestWork(t *testing.T) {
	r := random(86)
	for range 3000 {
		d := anyDate(r)
		from := d
		for range r.Intn(12) {
			if p := previous(from); p.Year > 0 {
				from = p
			}
		}
		free := days(from, r.Intn(25))
		free = shuffled(r, append(free, days(anyDate(r), r.Intn(3))...))
		if r.Intn(2) == 0 {
			free = free[:r.Intn(len(free)+1)]
		}
		free = append(free, free[:len(free)/2]...)
		for _, how := range moves {
			want(t, fmt.Sprint("Work ", text(d), " ", tellList(free, api.OK), " ", how), tell(day.Work(d, free, how)), workOf(d, free, how))
		}
	}
}

// 7.9, 7.15: every day of some years without free days: a working day stays, weekends move.
func TestWorkAtWeekends(t *testing.T) {
	for _, first := range list("2023-01-01 2000-01-01 0001-01-01 9998-01-01") {
		for _, d := range days(first, 730) {
			for _, how := range moves {
				want(t, fmt.Sprint("Work ", text(d), " ", how), tell(day.Work(d, nil, how)), workOf(d, nil, how))
			}
			if !isWeekend(d) {
				want(t, "Work of a working day", tell(day.Work(d, nil, api.MoveIn)), text(d))
			}
		}
	}
}

// 7.9: one by one; a free day that fell on another month, on another year, on a month's first days.
func TestWorkOneByOne(t *testing.T) {
	easter := list("2024-03-29 2024-04-01")
	for _, c := range []struct {
		d            string
		free         []api.Date
		on, back, in string
	}{
		{"2024-03-28", easter, "2024-03-28", "2024-03-28", "2024-03-28"}, {"2024-03-29", easter, "2024-04-02", "2024-03-28", "2024-03-28"}, {"2024-03-31", easter, "2024-04-02", "2024-03-28", "2024-03-28"}, {"2024-04-01", easter, "2024-04-02", "2024-03-28", "2024-04-02"},
		{"2024-06-01", nil, "2024-06-03", "2024-05-31", "2024-06-03"}, {"2024-06-30", nil, "2024-07-01", "2024-06-28", "2024-06-28"}, {"2022-12-31", list("2023-01-02"), "2023-01-03", "2022-12-30", "2022-12-30"}, {"2022-12-31", nil, "2023-01-02", "2022-12-30", "2022-12-30"},
		// The same month of the next year is another one.
		{"2023-05-15", days(on("2023-05-15"), 352), "2024-05-01", "2023-05-12", "2023-05-12"},
		// A month that is all free: MoveIn goes back out of it.
		{"2024-02-15", days(on("2024-02-01"), 29), "2024-03-01", "2024-01-31", "2024-01-31"}, {"2024-02-29", days(on("2024-02-01"), 29), "2024-03-01", "2024-01-31", "2024-01-31"}, {"2024-02-01", days(on("2024-02-01"), 28), "2024-02-29", "2024-01-31", "2024-02-29"},
	} {
		for how, wanted := range map[int]string{api.MoveOn: c.on, api.MoveBack: c.back, api.MoveIn: c.in} {
			what := fmt.Sprint("Work ", c.d, " ", how)
			want(t, what+", day by day", workOf(on(c.d), c.free, how), wanted)
			want(t, what, tell(day.Work(on(c.d), c.free, how)), wanted)
		}
	}
}

// 7.1, 7.9: the calendar's ends, by each way.
func TestWorkAtTheEnds(t *testing.T) {
	none := api.ErrRange.Error()
	for _, c := range []struct {
		d            string
		free         []api.Date
		on, back, in string
	}{
		{"9999-12-31", nil, "9999-12-31", "9999-12-31", "9999-12-31"}, {"9999-12-31", list("9999-12-31"), none, "9999-12-30", "9999-12-30"}, {"9999-12-25", days(on("9999-12-25"), 7), none, "9999-12-24", "9999-12-24"}, {"9999-12-31", days(on("9999-12-01"), 31), none, "9999-11-30", "9999-11-30"},
		{"0001-01-01", nil, "0001-01-01", "0001-01-01", "0001-01-01"}, {"0001-01-01", list("0001-01-01"), "0001-01-02", none, "0001-01-02"}, {"0001-01-15", days(on("0001-01-01"), 31), "0001-02-01", none, none}, {"0001-01-31", days(on("0001-01-01"), 30), "0001-01-31", "0001-01-31", "0001-01-31"}, {"0001-01-30", days(on("0001-01-01"), 30), "0001-01-31", none, "0001-01-31"},
		{"0001-01-07", days(on("0001-01-01"), 5), "0001-01-08", none, "0001-01-08"},
	} {
		for how, wanted := range map[int]string{api.MoveOn: c.on, api.MoveBack: c.back, api.MoveIn: c.in} {
			what := fmt.Sprint("Work ", c.d, " ", how)
			want(t, what+", day by day", workOf(on(c.d), c.free, how), wanted)
			want(t, what, tell(day.Work(on(c.d), c.free, how)), wanted)
		}
	}
}

// R3, 7.1, 7.9: as many free days as there may be, and one more; which error comes first.
func TestWorkOfManyFreeDays(t *testing.T) {
	r := random(87)
	d := on("2024-02-29")
	many := shuffled(r, days(d, api.MaxItems))
	for _, how := range moves {
		want(t, "Work with many free days", tell(day.Work(d, many, how)), workOf(d, many, how))
		want(t, "Work with too many free days", tell(day.Work(d, append(many, d), how)), api.ErrLong.Error())
	}
	var weeks []api.Date // weekdays alone, so that the free days lie as far as they can
	for x := d; len(weeks) < api.MaxItems; x = next(x) {
		if !isWeekend(x) {
			weeks = append(weeks, x)
		}
	}
	want(t, "Work far on", tell(day.Work(d, shuffled(r, weeks), api.MoveOn)), workOf(d, weeks, api.MoveOn))
	bad := make([]api.Date, api.MaxItems+1)
	for _, how := range append(noWays, moves...) {
		want(t, "Work with too many that are not right", tell(day.Work(d, bad, how)), api.ErrLong.Error())
		want(t, "Work with some that are not right", tell(day.Work(d, bad[:api.MaxItems], how)), api.ErrDate.Error())
		want(t, "Work with one that is not right at the end", tell(day.Work(d, append(days(d, 5), on("2023-02-29")), how)), api.ErrDate.Error())
		want(t, "Work of a day that is not right", tell(day.Work(api.Date{}, bad, how)), api.ErrDate.Error())
	}
}

// 7.9: ways that are none.
func TestWorkByNoWay(t *testing.T) {
	for _, how := range append(noWays, 4) {
		for _, s := range []string{"2024-02-29", "2024-03-31", "9999-12-31", "0001-01-01"} {
			want(t, fmt.Sprint("Work ", s, " ", how), tell(day.Work(on(s), nil, how)), api.ErrRange.Error())
			want(t, fmt.Sprint("Work ", s, " ", how), tell(day.Work(on(s), []api.Date{on(s)}, how)), api.ErrRange.Error())
		}
	}
}
