package table

import (
	"strings"

	"tontine/api"
	"tontine/exact"
	"tontine/whole"
)

// mixed is the table of a's name and ages in which each rate is made of both tables' rates at its place; b has as many as a.
func mixed(a, b api.Table, mix func(p, q int) int) api.Table {
	m := api.Table{Name: strings.Clone(a.Name), First: a.First, Rates: mixedRates(a.Rates, b.Rates, mix)}
	for d := range len(a.Select) {
		m.Select = append(m.Select, mixedRates(a.Select[d], b.Select[d], mix))
	}
	return m
}

func mixedRates(a, b []int, mix func(p, q int) int) []int {
	rates := make([]int, len(a))
	for k := range len(a) {
		rates[k] = mix(a[k], b[k])
	}
	return rates
}

// rounded is num by den, which is not above Unit, rounded half to even.
func rounded(num, den whole.Nat) int {
	n := exact.Fraction{Num: num, Den: den}.Round(api.RoundHalfEven)
	return int(n.Num.Word())
}

// Improve is a table whose rates have fallen yearly, for so many years (9.6).
func Improve(t api.Table, yearly, years int) (api.Table, api.Errno) {
	if e := Check(t); e != api.OK {
		return api.Table{}, e
	}
	if yearly < 0 || yearly > api.Unit || !isYears(years) {
		return api.Table{}, api.ErrRange
	}
	left := chance(api.Unit - yearly).Power(years)
	return mixed(t, t, func(q, _ int) int {
		if q == api.Unit {
			return q
		}
		return rounded(left.Num.Mul(whole.Of(uint64(q))), left.Den)
	}), api.OK
}

// Blend is the mean of two tables (9.6). Both have Unit at the same places, the ends of lists that are as long, and no rate above Unit - 1 elsewhere: so no mean is above it there.
func Blend(a, b api.Table, weight int) (api.Table, api.Errno) {
	for _, t := range []api.Table{a, b} {
		if e := Check(t); e != api.OK {
			return api.Table{}, e
		}
	}
	switch {
	case weight < 0 || weight > api.Unit:
		return api.Table{}, api.ErrRange
	case a.First != b.First || len(a.Rates) != len(b.Rates):
		return api.Table{}, api.ErrAge
	case len(a.Select) != len(b.Select):
		return api.Table{}, api.ErrRates
	}
	return mixed(a, b, func(p, q int) int {
		return rounded(whole.Of(uint64(weight*p+(api.Unit-weight)*q)), unit())
	}), api.OK
}
