package smooth

import (
	"tontine/api"
	"tontine/exact"
)

// readSeen is the fractions of what was seen, or what is wrong with it, or with its weights.
func readSeen(seen []api.Ratio, weights []int) ([]exact.Fraction, api.Errno) {
	numbers, e := readPoints(seen)
	if e != api.OK {
		return nil, e
	}
	if e := checkWeights(weights, len(seen)); e != api.OK {
		return nil, e
	}
	return numbers, api.OK
}

// readAsMany is the fractions of a list, or what is wrong with it, or ErrPairs, if they are not so many.
func readAsMany(l []api.Ratio, count int) ([]exact.Fraction, api.Errno) {
	numbers, e := readPoints(l)
	switch {
	case e != api.OK:
		return nil, e
	case len(l) != count:
		return nil, api.ErrPairs
	}
	return numbers, api.OK
}

// Measure is how far numbers are from those that were seen, and how rough they are (10.2).
func Measure(seen []api.Ratio, weights []int, order int, l []api.Ratio) (api.Ratio, api.Ratio, api.Errno) {
	u, e := readSeen(seen, weights)
	switch {
	case e != api.OK:
		return api.Ratio{}, api.Ratio{}, e
	case !isOrder(order):
		return api.Ratio{}, api.Ratio{}, api.ErrOrder
	}
	g, e := readAsMany(l, len(seen))
	if e != api.OK {
		return api.Ratio{}, api.Ratio{}, e
	}
	fit, e := exact.WriteSum(fits(u, weights, g)...)
	if e != api.OK {
		return api.Ratio{}, api.Ratio{}, e
	}
	rough, e := exact.WriteSum(roughs(g, order)...)
	if e != api.OK {
		return api.Ratio{}, api.Ratio{}, e
	}
	return fit, rough, api.OK
}

// fits is the parts of the fit.
func fits(u []exact.Fraction, weights []int, g []exact.Fraction) []exact.Fraction {
	parts := make([]exact.Fraction, len(u))
	for i := range len(u) {
		miss := u[i].Plus(g[i].Negated())
		parts[i] = exact.OfInt(weights[i]).Times(miss.Power(2))
	}
	return parts
}

// roughs is the parts of the roughness.
func roughs(g []exact.Fraction, order int) []exact.Fraction {
	var parts []exact.Fraction
	factors := factorsOf(order)
	for i := range len(g) - order {
		parts = append(parts, combined(g[i:], factors).Power(2))
	}
	return parts
}

// Moment is by how much numbers miss a moment of those that were seen (10.2).
func Moment(seen []api.Ratio, weights []int, l []api.Ratio, power int) (api.Ratio, api.Errno) {
	u, e := readSeen(seen, weights)
	if e != api.OK {
		return api.Ratio{}, e
	}
	g, e := readAsMany(l, len(seen))
	switch {
	case e != api.OK:
		return api.Ratio{}, e
	case power < 0 || power > api.MaxOrder:
		return api.Ratio{}, api.ErrRange
	}
	parts := make([]exact.Fraction, len(u))
	for i := range len(u) {
		factor := weights[i] // with the greatest power of the last place it still is an int
		for range power {
			factor *= i
		}
		parts[i] = exact.OfInt(factor).Times(g[i].Plus(u[i].Negated()))
	}
	return exact.WriteSum(parts...)
}
