package value

import (
	"tontine/api"
	"tontine/exact"
	"tontine/reckon"
)

const mostParts = 365

// Parts is what Woolhouse gives for an annuity that is paid in so many parts a year (13.6).
func Parts(b api.Basis, l api.Life, f api.Benefit, parts int) (api.Ratio, api.Errno) {
	rates, e := given(b, l, f)
	switch {
	case e != api.OK:
		return api.Ratio{}, e
	case f.Kind != api.BDue || f.Sure != 0:
		return api.Ratio{}, api.ErrBenefit
	case parts < 1 || parts > mostParts:
		return api.Ratio{}, api.ErrRange
	}
	n := reckon.Exacts()
	yearly := promised(n, b.Rate, rates, f).at(0)
	ends := n.Minus(atTime(b.Rate, rates, f.Wait), atTime(b.Rate, rates, f.Wait+f.Term))
	return n.Minus(yearly, n.Times(n.Of(parts-1, 2*parts), ends)).Ratio()
}

// atTime is what 1 at the time t is worth, if a life with these rates is alive then.
func atTime(interest int, rates []int, t int) exact.Fraction {
	t = min(t, len(rates)) // nobody is alive at the last rate's end, or behind it
	alive := natural(1)
	for _, rate := range rates[:t] {
		alive = alive.Mul(natural(api.Unit - rate))
	}
	return exact.Lowest(false, alive, natural(api.Unit+interest).Pow(t))
}
