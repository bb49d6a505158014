package decrement

import (
	"slices"
	"strings"

	"tontine/api"
	"tontine/exact"
	"tontine/table"
	"tontine/whole"
)

// Alone is the causes with one of them alone (15.4).
func Alone(c api.Causes, cause int) (api.Causes, api.Errno) {
	if e := checkCause(c, cause); e != api.OK {
		return api.Causes{}, e
	}
	return api.Causes{First: c.First, Rates: [][]int{slices.Clone(c.Rates[cause])}}, api.OK
}

// Without is the causes with all but one of them (15.4).
func Without(c api.Causes, cause int) (api.Causes, api.Errno) {
	if e := checkCause(c, cause); e != api.OK {
		return api.Causes{}, e
	}
	if len(c.Rates) == 1 {
		return api.Causes{}, api.ErrCauses
	}
	others := api.Causes{First: c.First}
	for other, rates := range c.Rates {
		if other != cause {
			others.Rates = append(others.Rates, slices.Clone(rates))
		}
	}
	return others, api.OK
}

// checkCause is what is wrong with causes, or with the place of one of them, or OK.
func checkCause(c api.Causes, cause int) api.Errno {
	if e := Check(c); e != api.OK {
		return e
	}
	if cause < 0 || cause >= len(c.Rates) {
		return api.ErrNone
	}
	return api.OK
}

// Table is the life table by which as many die as leave by all causes (15.5).
func Table(c api.Causes, name string) (api.Table, api.Errno) {
	if e := Check(c); e != api.OK {
		return api.Table{}, e
	}
	named := api.Table{Name: name, Rates: []int{api.Unit}} // nothing but its name can be wrong
	if e := table.Check(named); e != api.OK {
		return api.Table{}, e
	}
	end := last(c)
	t := api.Table{Name: strings.Clone(name), First: c.First}
	for age := c.First; age < end; age++ {
		y := yearOf(c, age)
		stay := y.still(aYear())
		if stay.IsZero() {
			return api.Table{}, api.ErrRates
		}
		t.Rates = append(t.Rates, rateOf(stay, y.all(aYear())))
	}
	t.Rates = append(t.Rates, api.Unit)
	return t, api.OK
}

// rateOf is the rate at which all but those leave who stay, below Unit.
func rateOf(stay, all whole.Nat) int {
	leave := exact.Fraction{Num: all.Sub(stay).Mul(natural(api.Unit)), Den: all}
	rate := leave.Round(api.RoundHalfEven)
	return min(int(rate.Num.Word()), api.Unit-1)
}
