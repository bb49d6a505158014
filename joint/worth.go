package joint

import (
	"tontine/api"
	"tontine/exact"
)

// worth is the sum, over the times t from first to last, of v to the t times what at tells of t: that by Unit to the lives times t. Common divisors are looked for in the whole sum alone.
func worth(interest, lives, first, last int, at func(t int) exact.Fraction) (api.Ratio, api.Errno) {
	year := exact.OfInt(api.Unit).Power(lives - 1).Times(exact.OfInt(api.Unit + interest)) // one Unit drops out with that of v
	sum, by := exact.OfInt(0), exact.OfInt(1)
	for t := range last + 1 {
		if t > 0 {
			sum, by = sum.Times(year), by.Times(year)
		}
		if t >= first {
			sum = sum.Plus(at(t))
		}
	}
	return exact.WriteLowest(sum.Neg, sum.Num, sum.Den.Mul(by.Num))
}
