package day

import "tontine/api"

// Age is how old one is (7.5).
func Age(birth, on api.Date, how int) (int, api.Errno) {
	if _, e := daysFrom(birth, on); e != api.OK {
		return 0, e
	}
	n := monthsPast(birth, on) / monthsOfYear
	since := numberOf(on) - birthday(birth, n)
	until := birthday(birth, n+1) - numberOf(on)
	switch how {
	case api.AgeLast:
		return n, api.OK
	case api.AgeNext:
		return oneMore(n, since > 0), api.OK
	case api.AgeNear:
		return oneMore(n, until <= since), api.OK
	}
	return 0, api.ErrRange
}

// Between is the years, months and days from a to b (7.6).
func Between(a, b api.Date) (years, months, days int, e api.Errno) {
	if _, e := daysFrom(a, b); e != api.OK {
		return 0, 0, 0, e
	}
	n := monthsPast(a, b)
	return n / monthsOfYear, n % monthsOfYear, numberOf(b) - numberOf(monthsOn(a, n)), api.OK
}

// daysFrom is how many days there are from a to b; or ErrDate, if one is not right; or ErrRange, if b is ahead of a.
func daysFrom(a, b api.Date) (int, api.Errno) {
	from, e := Number(a)
	if e != api.OK {
		return 0, e
	}
	to, e := Number(b)
	if e != api.OK {
		return 0, e
	}
	if to < from {
		return 0, api.ErrRange
	}
	return to - from, api.OK
}

// monthsPast is the greatest number of months on from a that is not behind b, which is not ahead of a. So many lead into b's month; there they may still be behind b, but one less is not.
func monthsPast(a, b api.Date) int {
	n := monthsAhead(b) - monthsAhead(a)
	if monthsOn(a, n).Day > b.Day {
		return n - 1
	}
	return n
}

// birthday is the number of the n-th birthday, behind the calendar's end too.
func birthday(birth api.Date, n int) int {
	return numberOf(monthsOn(birth, monthsOfYear*n))
}

func oneMore(n int, more bool) int {
	if more {
		return n + 1
	}
	return n
}
