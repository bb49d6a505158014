package interest

import (
	"math"

	"tontine/api"
	"tontine/exact"
	"tontine/float"
)

// Nominal is the nominal rate, paid so many times a year, of a yearly one, between neighbouring floats (8.1).
func Nominal(rate, times int) (api.Span, api.Errno) {
	if !isRate(rate) || !isTimes(times) {
		return api.Span{}, api.ErrRange
	}
	wanted, part := growth(rate), quotient(1, times)
	return locate(-float64(times), func(x float64) int {
		each := onePlus(number(x).Times(part))
		return each.Power(times).Cmp(wanted)
	}), api.OK
}

// Yield is the rate by which flows are worth nothing, between neighbouring floats (8.4).
func Yield(l []api.Flow) (api.Span, api.Errno) {
	payments, e := read(l)
	if e != api.OK {
		return api.Span{}, e
	}
	first, changes := signs(payments)
	if changes != 1 {
		return api.Span{}, api.ErrSigns
	}
	return locate(-1, func(x float64) int { // the greater the rate, the more the first payment weighs
		return first * worth(payments, onePlus(number(x))).Sign()
	}), api.OK
}

// signs is the sign of the first payment that is not 0, and how often the sign changes.
func signs(l []payment) (int, int) {
	first, last, changes := 0, 0, 0
	for _, p := range l {
		sign := p.amount.Sign()
		switch {
		case sign == 0:
			continue
		case first == 0:
			first = sign
		case sign != last:
			changes++
		}
		last = sign
	}
	return first, changes
}

// number is x's number; x is finite.
func number(x float64) exact.Fraction {
	r, _ := float.Exact(x)
	f, _ := exact.Read(r)
	return f
}

func onePlus(f exact.Fraction) exact.Fraction {
	return f.Plus(exact.OfInt(1))
}

// locate is the floats next to the number that side knows: it tells of a float whether that is below the number, is it, or is above it (-1, 0, 1). The number is above floor.
//
// If it is not nought, its size is above least and below greatest. A nominal rate lies between i and the logarithm of 1 + i. Amounts that do not sum to nought sum to a penny at least, and each amount times its time, all in all, is less than 2^63: so a yield that is not nought is about 2^-63 at least. The first amount is a penny at least, and no other one is above MaxMoney: so by Cauchy's bound no yield is above MaxMoney either.
func locate(floor float64, side func(x float64) int) api.Span {
	const least, greatest = 0x1p-70, 0x1p50
	switch order := side(0); {
	case order < 0:
		return narrow(least, greatest, side)
	case order > 0:
		return narrow(floor, -least, side)
	}
	return api.Span{}
}

// narrow is likewise, of a number that is above lo and below hi, which have one sign.
func narrow(lo, hi float64, side func(x float64) int) api.Span {
	for float.Up(lo) < hi {
		x := middle(lo, hi)
		switch order := side(x); {
		case order < 0:
			lo = x
		case order > 0:
			hi = x
		default:
			return api.Span{Lo: x, Hi: x}
		}
	}
	return api.Span{Lo: lo, Hi: hi}
}

// middle is the float with as many steps to lo as to hi, but for one; both have one sign, so that their bits count the steps.
func middle(lo, hi float64) float64 {
	a, b := math.Float64bits(lo), math.Float64bits(hi)
	return math.Float64frombits(a/2 + b/2 + a&b&1)
}
