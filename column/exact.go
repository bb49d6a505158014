package column

import (
	"tontine/api"
	"tontine/coming"
	"tontine/exact"
	"tontine/whole"
)

// Exact is a line of the exact columns (12.1).
func Exact(b api.Basis, l api.Life, n int) (api.Column, api.Errno) {
	rates, e := coming.Rates(b, l)
	switch {
	case e != api.OK:
		return api.Column{}, e
	case n < 0 || n > api.MaxYears:
		return api.Column{}, api.ErrRange
	}
	n = min(n, len(rates)) // from there on all are nought
	grown := natural(api.Unit + b.Rate)
	d, c := numerators(rates, grown)
	from := summed(d[n:], c[n:], whole.Nat.Add)
	den := grown.Pow(len(rates))
	var line [6]api.Ratio
	for i, column := range [][]whole.Nat{from.d, from.n, from.s, from.c, from.m, from.r} {
		line[i], e = exact.WriteLowest(false, column[0], den)
		if e != api.OK {
			return api.Column{}, e
		}
	}
	return api.Column{D: line[0], N: line[1], S: line[2], C: line[3], M: line[4], R: line[5]}, api.OK
}

// numerators is D and C of a life with these rates, all by grown, which is Unit and the rate of interest, to the power of how many rates there are. So they are summed as whole numbers, and common divisors are looked for once: Unit cancels out of survival and discount.
func numerators(rates []int, grown whole.Nat) ([]whole.Nat, []whole.Nat) {
	last := len(rates)
	powers := make([]whole.Nat, last+1)
	powers[0] = natural(1)
	for n := range last {
		powers[n+1] = powers[n].Mul(grown)
	}
	d, c := make([]whole.Nat, last+1), make([]whole.Nat, last+1)
	alive := natural(1)
	for n := range last {
		d[n] = alive.Mul(powers[last-n])
		c[n] = alive.Mul(natural(rates[n])).Mul(powers[last-n-1])
		alive = alive.Mul(natural(api.Unit - rates[n]))
	}
	return d, c // nobody is alive at the last line
}

// natural is n, which is not below 0.
func natural(n int) whole.Nat { return whole.Of(uint64(n)) }
