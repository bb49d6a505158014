package day

import "tontine/api"

// mostEvery is the greatest number of months between two dues (7.4).
const mostEvery = 1200

// Days is the date n days later (7.3).
func Days(d api.Date, n int) (api.Date, api.Errno) {
	from, e := Number(d)
	if e != api.OK {
		return api.Date{}, e
	}
	if !isWithin(from, n, 1, lastNumber) {
		return api.Date{}, api.ErrRange
	}
	return FromNumber(from + n)
}

// Months is the date n months on (7.3).
func Months(d api.Date, n int) (api.Date, api.Errno) {
	if e := Check(d); e != api.OK {
		return api.Date{}, e
	}
	if !isWithin(monthsAhead(d), n, 0, monthsOfYear*api.MaxYear-1) {
		return api.Date{}, api.ErrRange
	}
	return monthsOn(d, n), api.OK
}

// Dues is count dates, every so many months on from the first (7.4).
func Dues(first api.Date, every, count int) ([]api.Date, api.Errno) {
	if e := Check(first); e != api.OK {
		return nil, e
	}
	if every < 1 || every > mostEvery || count < 0 || count > api.MaxItems {
		return nil, api.ErrRange
	}
	dues := make([]api.Date, count)
	for k := range count {
		d, e := Months(first, every*k)
		if e != api.OK {
			return nil, e
		}
		dues[k] = d
	}
	return dues, api.OK
}

// isWithin tells whether from and n together lie in a range that from lies in; they are not put together ahead of that, since they might leave an int.
func isWithin(from, n, low, high int) bool {
	return n >= low-from && n <= high-from
}

// monthsAhead is how many months of the calendar lie ahead of the date's.
func monthsAhead(d api.Date) int {
	return monthsOfYear*(d.Year-1) + d.Month - 1
}

// monthsOn is n months on from d, behind the calendar's end too.
func monthsOn(d api.Date, n int) api.Date {
	ahead := monthsAhead(d) + n
	year, month := 1+ahead/monthsOfYear, 1+ahead%monthsOfYear
	return api.Date{Year: year, Month: month, Day: min(d.Day, lengthOf(year, month))}
}
