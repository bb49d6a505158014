package interest

import (
	"tontine/api"
	"tontine/exact"
)

// Certain is the value of one a year (8.2).
func Certain(rate, years int, due bool) (api.Ratio, api.Errno) {
	return annuity(rate, years, due, one)
}

// Rising is the value of 1, 2, 3 .. a year (8.2).
func Rising(rate, years int, due bool) (api.Ratio, api.Errno) {
	return annuity(rate, years, due, func(k int) int { return k })
}

// Falling is the value of years, .. 2, 1 a year (8.2).
func Falling(rate, years int, due bool) (api.Ratio, api.Errno) {
	return annuity(rate, years, due, func(k int) int { return years + 1 - k })
}

func one(int) int { return 1 }

// annuity is the value at 0 of amounts that are told of the years 1, 2, 3 .., or what is wrong with what was given.
func annuity(rate, years int, due bool, amount func(k int) int) (api.Ratio, api.Errno) {
	if !isRate(rate) || !isYears(years) {
		return api.Ratio{}, api.ErrRange
	}
	return yearly(rate, years, due, amount).Ratio()
}

// yearly is the value at 0 of amounts that are told of the years 1, 2, 3 .., paid at their ends, or, if due, at their beginnings.
func yearly(rate, years int, due bool, amount func(k int) int) exact.Fraction {
	first := 1
	if due {
		first = 0
	}
	l := make([]payment, years)
	for i := range years {
		l[i] = payment{first + i, exact.OfInt(amount(i + 1))}
	}
	return value(l, growth(rate), 0)
}
