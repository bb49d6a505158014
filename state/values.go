package state

import (
	"tontine/api"
	"tontine/exact"
	"tontine/reckon"
	"tontine/whole"
)

// Values is what payments are worth at each time, in each state (16.3).
func Values(c api.Chain, rate int, p api.Stays) ([][]api.Ratio, api.Errno) {
	if e := checkStays(c, rate, p); e != api.OK {
		return nil, e
	}
	all := make([][]api.Ratio, len(c.Steps)+1)
	for t, worth := range exactly(c, rate).values(c, p) {
		for _, x := range worth {
			r, e := exact.WriteLowest(x.neg, x.size, whole.Of(uint64(api.Unit+rate)).Pow(x.power))
			if e != api.OK {
				return nil, e
			}
			all[t] = append(all[t], r)
		}
	}
	return all, api.OK
}

// Floats is that in floats (16.3).
func Floats(c api.Chain, rate int, p api.Stays) ([][]float64, api.Errno) {
	if e := checkStays(c, rate, p); e != api.OK {
		return nil, e
	}
	return stepwise(reckon.Floats(), rate).values(c, p), api.OK
}

// Spans is that in spans (16.3).
func Spans(c api.Chain, rate int, p api.Stays) ([][]api.Span, api.Errno) {
	if e := checkStays(c, rate, p); e != api.OK {
		return nil, e
	}
	return stepwise(reckon.Spans(), rate).values(c, p), api.OK
}

// Level is the yearly premium in a state, for so many years, that is worth what payments are (16.4). The first one is paid for certain: so what premiums of one are worth is never nought.
func Level(c api.Chain, rate int, p api.Stays, state, years int) (api.Ratio, api.Errno) {
	if e := checkStays(c, rate, p); e != api.OK {
		return api.Ratio{}, e
	}
	if e := checkStates(c, state); e != api.OK {
		return api.Ratio{}, e
	}
	if years < 1 || years > len(c.Steps) {
		return api.Ratio{}, api.ErrRange
	}
	by := whole.Of(uint64(api.Unit + rate))
	x := exactly(c, rate).values(c, p)[0][state]
	return exact.WriteLowest(x.neg, x.size.Mul(by.Pow(years-1)), premiums(c, by, state, years).Mul(by.Pow(x.power)))
}

// premiums is what payments of one at the beginnings of so many years are worth, if they are made in a state, times the last one's power of by, which is Unit + rate: each is the chance to be there, by Unit to its time, times Unit to its time by that power.
func premiums(c api.Chain, by whole.Nat, state, years int) whole.Nat {
	sum, spread := whole.Of(1), begun(c, state)
	for _, rows := range c.Steps[:years-1] {
		spread = later(spread, rows)
		sum = sum.Mul(by).Add(spread[state])
	}
	return sum
}

// checkStays tells what is wrong with a chain, with a rate of interest or with payments: with their sizes first.
func checkStays(c api.Chain, rate int, p api.Stays) api.Errno {
	if e := Check(c); e != api.OK {
		return e
	}
	switch {
	case rate < 0 || rate > api.MaxRate:
		return api.ErrRange
	case !fits(c, p):
		return api.ErrStays
	}
	for t, stay := range p.Stay {
		if !areAmounts(stay) || !areAmounts(p.Move[t]...) {
			return api.ErrMoney
		}
	}
	return api.OK
}

// fits tells whether payments are as many as a chain asks for.
func fits(c api.Chain, p api.Stays) bool {
	if len(p.Stay) != len(c.Steps) || len(p.Move) != len(c.Steps) {
		return false
	}
	for t, rows := range p.Move {
		if len(p.Stay[t]) != c.States || len(rows) != c.States {
			return false
		}
		for _, row := range rows {
			if len(row) != c.States {
				return false
			}
		}
	}
	return true
}

// areAmounts tells whether lists hold amounts alone.
func areAmounts(lists ...[]int) bool {
	for _, l := range lists {
		for _, pennies := range l {
			if pennies < -api.MaxMoney || pennies > api.MaxMoney {
				return false
			}
		}
	}
	return true
}
