package day

import (
	"tontine/api"
	"tontine/ratio"
)

const (
	daysOfBank = 360 // of a year, as banks have it
	bankMonth  = 30
)

// Part is the part of a year from a to b (7.7). Two of the ways count by themselves what differs, and leave the rest to the next one.
func Part(a, b api.Date, how int) (api.Ratio, api.Errno) {
	days, e := daysFrom(a, b)
	if e != api.OK {
		return api.Ratio{}, e
	}
	leap := 0
	switch how {
	case api.CountYears:
		leap = leapDaysAhead(b) - leapDaysAhead(a)
		days -= leap
		fallthrough
	case api.Count365:
		return ratio.Of(leap*daysOfYear+days*daysOfLeap, daysOfLeap*daysOfYear)
	case api.CountThird:
		days = bankDaysAhead(b) - bankDaysAhead(a)
		fallthrough
	case api.Count360:
		return ratio.Of(days, daysOfBank)
	}
	return api.Ratio{}, api.ErrRange
}

// leapDaysAhead is how many days ahead of d lie in leap years.
func leapDaysAhead(d api.Date) int {
	days := daysOfLeap * leapsAhead(d.Year)
	if isLeap(d.Year) {
		days += dayInYear(d) - 1
	}
	return days
}

// bankDaysAhead is how many days lie ahead of d, if each month has thirty.
func bankDaysAhead(d api.Date) int {
	return bankMonth*monthsAhead(d) + min(d.Day, bankMonth) - 1
}
