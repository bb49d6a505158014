package ratio

import (
	"slices"

	"tontine/api"
	"tontine/exact"
	"tontine/whole"
)

// wayBits is how long a denominator may grow while a sum is made plainly.
const wayBits = 4 * exact.MostBits

// Sum is the sum of all (1.2).
func Sum(l []api.Ratio) (api.Ratio, api.Errno) {
	if len(l) > api.MaxItems {
		return api.Ratio{}, api.ErrLong
	}
	parts := make([]exact.Fraction, len(l))
	for i := range len(l) {
		var e api.Errno
		if parts[i], e = exact.Read(l[i]); e != api.OK {
			return api.Ratio{}, e
		}
	}
	// Like denominators meet early, so that what cancels out does so before it grows.
	slices.SortFunc(parts, func(f, g exact.Fraction) int { return f.Den.Cmp(g.Den) })
	sum, ok := total(parts...)
	if !ok {
		return api.Ratio{}, api.ErrLong
	}
	return sum.Ratio()
}

// total is the sum of all, or false, if that is known to have too many digits.
//
// What is reckoned on the way may be thousands of times as long as any answer, and then a common divisor takes far too long to find. There the one fraction that is short enough and could be the sum is found from the sum's first digits; mostly there is none. If there is one, it is held against the sum, which needs products alone.
func total(parts ...exact.Fraction) (exact.Fraction, bool) {
	if sum, ok := addUp(parts...); ok {
		return sum, true
	}
	sum := simplest(bounds(parts...))
	if sum.Num.BitLen() > exact.MostBits || sum.Den.BitLen() > exact.MostBits {
		return exact.Fraction{}, false
	}
	return sum, sum.Cmp(addRoughly(parts...)) == 0
}

// addUp sums by halves, always in lowest terms; it gives up when a sum on the way is too long.
func addUp(parts ...exact.Fraction) (exact.Fraction, bool) {
	switch len(parts) {
	case 0:
		return exact.OfWhole(false, whole.Nat{}), true
	case 1:
		return parts[0], true
	}
	half := len(parts) / 2
	left, ok := addUp(parts[:half]...)
	if !ok {
		return exact.Fraction{}, false
	}
	right, ok := addUp(parts[half:]...)
	if !ok {
		return exact.Fraction{}, false
	}
	sum := left.Plus(right)
	return sum, sum.Den.BitLen() <= wayBits
}

// boundPlaces is how many binary places the bounds of a sum have: two fractions with at most exact.MostBits bits below are 2 to the -2 exact.MostBits apart at least, and each part makes the bounds one unit of the last place wider.
const boundPlaces = 2*exact.MostBits + 64

// bounds are two fractions which the sum is not below and not above, so near to one another that at most one fraction that is short enough lies between them.
func bounds(parts ...exact.Fraction) (exact.Fraction, exact.Fraction) {
	sum := exact.OfWhole(false, whole.Nat{})
	for _, f := range parts {
		f.Num = f.Num.ShiftLeft(boundPlaces)
		n, _ := f.Floor()
		sum.Neg, sum.Num = exact.PlusSigned(sum.Neg, sum.Num, n.Neg, n.Num)
	}
	sum.Den = whole.Of(1).ShiftLeft(boundPlaces)
	above := sum
	above.Neg, above.Num = exact.PlusSigned(sum.Neg, sum.Num, false, whole.Of(uint64(len(parts))))
	return sum, above
}

// addRoughly sums by halves, but leaves common divisors in.
func addRoughly(parts ...exact.Fraction) exact.Fraction {
	if len(parts) == 1 {
		return parts[0]
	}
	half := len(parts) / 2
	left, right := addRoughly(parts[:half]...), addRoughly(parts[half:]...)
	neg, num := exact.PlusSigned(left.Neg, left.Num.Mul(right.Den), right.Neg, right.Num.Mul(left.Den))
	return exact.Fraction{Neg: neg, Num: num, Den: left.Den.Mul(right.Den)}
}
