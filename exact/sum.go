package exact

import (
	"slices"

	"tontine/api"
	"tontine/whole"
)

// WayBits is how long a denominator may grow on the way to an answer before its first digits are looked at instead: beyond that, common divisors take too long to find.
const WayBits = 4 * MostBits

// Places is how many binary places tell a fraction that is short enough: two of them, with at most MostBits bits below, are 2 to the -2 MostBits apart at least.
const Places = 2*MostBits + 64

// Short is the only fraction that may be short enough to be answered, of those from low, a whole number of units of 2 to the -Places, to so many units more; or false, if there is none.
func Short(low Fraction, units int) (Fraction, bool) {
	high := low.Plus(OfInt(units))
	unit := whole.Of(1).ShiftLeft(Places)
	low.Den, high.Den = unit, unit
	f := Simplest(low, high)
	return f, f.Num.BitLen() <= MostBits && f.Den.BitLen() <= MostBits
}

// Sum is the sum of all, which are in lowest terms, or false, if that is known to have too many digits.
//
// What is reckoned on the way may be thousands of times as long as any answer, and then a common divisor takes far too long to find. There the one fraction that is short enough and could be the sum is found from the sum's first digits; mostly there is none. If there is one, it is held against the sum, which needs products alone.
func Sum(parts ...Fraction) (Fraction, bool) {
	// Like denominators meet early, so that what cancels out does so before it grows.
	parts = slices.Clone(parts)
	slices.SortFunc(parts, func(f, g Fraction) int { return f.Den.Cmp(g.Den) })
	if sum, ok := addUp(parts); ok {
		return sum, true
	}
	sum, ok := Short(addDown(parts), len(parts))
	if !ok {
		return Fraction{}, false
	}
	return sum, sum.Cmp(addRoughly(parts)) == 0
}

// WriteSum is the sum of all, which are in lowest terms, unless that is too long (R2).
func WriteSum(parts ...Fraction) (api.Ratio, api.Errno) {
	sum, ok := Sum(parts...)
	if !ok {
		return api.Ratio{}, api.ErrLong
	}
	return sum.Ratio()
}

// addUp sums by halves, always in lowest terms; it gives up when a sum on the way is too long.
func addUp(parts []Fraction) (Fraction, bool) {
	switch len(parts) {
	case 0:
		return OfInt(0), true
	case 1:
		return parts[0], true
	}
	half := len(parts) / 2
	left, ok := addUp(parts[:half])
	if !ok {
		return Fraction{}, false
	}
	right, ok := addUp(parts[half:])
	if !ok {
		return Fraction{}, false
	}
	sum := left.Plus(right)
	return sum, sum.Den.BitLen() <= WayBits
}

// addDown is the sum in units of 2 to the -Places, each part being rounded down: so the exact sum is not below it, and at most a unit for each part above it.
func addDown(parts []Fraction) Fraction {
	sum := OfInt(0)
	for _, f := range parts {
		f.Num = f.Num.ShiftLeft(Places)
		n, _ := f.Floor()
		sum = sum.Plus(n)
	}
	return sum
}

// addRoughly sums by halves, but leaves common divisors in.
func addRoughly(parts []Fraction) Fraction {
	if len(parts) == 1 {
		return parts[0]
	}
	half := len(parts) / 2
	left, right := addRoughly(parts[:half]), addRoughly(parts[half:])
	neg, num := PlusSigned(left.Neg, left.Num.Mul(right.Den), right.Neg, right.Num.Mul(left.Den))
	return Fraction{Neg: neg, Num: num, Den: left.Den.Mul(right.Den)}
}
