package ratio

import (
	"slices"

	"tontine/api"
	"tontine/exact"
	"tontine/whole"
)

// wayBits is how long a denominator may grow while a sum is made plainly.
const wayBits = 4 * exact.MostBits

// Sum is the sum of all (1.2).
func Sum(l []api.Ratio) (api.Ratio, api.Errno) {
	if len(l) > api.MaxItems {
		return api.Ratio{}, api.ErrLong
	}
	parts := make([]fraction, len(l))
	for i := range len(l) {
		var e api.Errno
		if parts[i], e = read(l[i]); e != api.OK {
			return api.Ratio{}, e
		}
	}
	// Like denominators meet early, so that what cancels out does so before it grows.
	slices.SortFunc(parts, func(f, g fraction) int { return f.den.Cmp(g.den) })
	sum, ok := total(parts...)
	if !ok {
		return api.Ratio{}, api.ErrLong
	}
	return answer(sum)
}

// total is the sum of all, or false, if that is known to have too many digits.
//
// What is reckoned on the way may be thousands of times as long as any answer, and then a common divisor takes far too long to find. There the one fraction that is short enough and could be the sum is found from the sum's first digits; mostly there is none. If there is one, it is held against the sum, which needs products alone.
func total(parts ...fraction) (fraction, bool) {
	if sum, ok := addUp(parts...); ok {
		return sum, true
	}
	sum := simplest(bounds(parts...))
	if sum.num.BitLen() > exact.MostBits || sum.den.BitLen() > exact.MostBits {
		return fraction{}, false
	}
	return sum, compare(sum, addRoughly(parts...)) == 0
}

// addUp sums by halves, always in lowest terms; it gives up when a sum on the way is too long.
func addUp(parts ...fraction) (fraction, bool) {
	switch len(parts) {
	case 0:
		return wholeFraction(false, whole.Nat{}), true
	case 1:
		return parts[0], true
	}
	half := len(parts) / 2
	left, ok := addUp(parts[:half]...)
	if !ok {
		return fraction{}, false
	}
	right, ok := addUp(parts[half:]...)
	if !ok {
		return fraction{}, false
	}
	sum := plus(left, right)
	return sum, sum.den.BitLen() <= wayBits
}

// boundPlaces is how many binary places the bounds of a sum have: two fractions with at most exact.MostBits bits below are 2 to the -2 exact.MostBits apart at least, and each part makes the bounds one unit of the last place wider.
const boundPlaces = 2*exact.MostBits + 64

// bounds are two fractions which the sum is not below and not above, so near to one another that at most one fraction that is short enough lies between them.
func bounds(parts ...fraction) (fraction, fraction) {
	sum := wholeFraction(false, whole.Nat{})
	for _, f := range parts {
		n, _ := floor(fraction{f.neg, f.num.ShiftLeft(boundPlaces), f.den})
		sum.neg, sum.num = plusSigned(sum.neg, sum.num, n.neg, n.num)
	}
	sum.den = whole.Of(1).ShiftLeft(boundPlaces)
	above := sum
	above.neg, above.num = plusSigned(sum.neg, sum.num, false, whole.Of(uint64(len(parts))))
	return sum, above
}

// addRoughly sums by halves, but leaves common divisors in.
func addRoughly(parts ...fraction) fraction {
	if len(parts) == 1 {
		return parts[0]
	}
	half := len(parts) / 2
	left, right := addRoughly(parts[:half]...), addRoughly(parts[half:]...)
	neg, num := plusSigned(left.neg, left.num.Mul(right.den), right.neg, right.num.Mul(left.den))
	return fraction{neg, num, left.den.Mul(right.den)}
}
