package smooth

import (
	"tontine/api"
	"tontine/exact"
	"tontine/whole"
)

// Graduate is the smooth numbers nearest to those that were seen (10.2).
func Graduate(seen []api.Ratio, weights []int, order, smooth int) ([]api.Ratio, api.Errno) {
	numbers, e := readPoints(seen)
	if e != api.OK {
		return nil, e
	}
	q, e := newEquations(len(seen), weights, order, smooth)
	if e != api.OK {
		return nil, e
	}
	if smooth == 0 || len(seen) <= order { // nothing draws the numbers away from what was seen
		return written(len(seen), func(i int) exact.Fraction { return numbers[i] })
	}
	if common, ok := q.commonDen(numbers); ok {
		return q.reckoned(numbers, common)
	}
	return q.found(numbers)
}

// commonDen is the least number that the denominator of each number with a weight divides, or false, if that is too long to reckon with.
func (q equations) commonDen(seen []exact.Fraction) (whole.Nat, bool) {
	common := whole.Of(1)
	for i, u := range seen {
		if q.weights[i] == 0 {
			continue
		}
		part, _ := u.Den.DivMod(u.Den.GCD(common))
		common = common.Mul(part)
		if common.BitLen() > exact.WayBits {
			return whole.Nat{}, false
		}
	}
	return common, true
}

// reckoned is the graduation, reckoned in whole numbers: all that counts is multiplied by a common denominator.
func (q equations) reckoned(seen []exact.Fraction, common whole.Nat) ([]api.Ratio, api.Errno) {
	sides, scale := make([]exact.Fraction, len(seen)), exact.OfWhole(false, common)
	for i, u := range seen {
		sides[i] = exact.OfInt(q.weights[i]).Times(u).Times(scale)
	}
	x, all := q.solve(sides)
	den := all.Mul(common)
	return written(len(x), func(i int) exact.Fraction { return exact.Lowest(x[i].Neg, x[i].Num, den) })
}

// found is the graduation of numbers whose common denominator is far longer than any answer: the only numbers that are short enough and could be the graduation are found from its first digits, and held against the equations. Mostly there are none.
//
// What was seen is rounded down to more binary places than the answers are told by. So a unit of its last place is lost at most of each number, and in the graduation less than 2 to the more of them: no number of A's inverse is above the greatest one of its diagonal, that is a minor of A by its determinant; the minor is at most the product of its diagonal, and the determinant 1 at least.
func (q equations) found(seen []exact.Fraction) ([]api.Ratio, api.Errno) {
	more := entryBits * len(seen)
	sides := make([]exact.Fraction, len(seen))
	for i, u := range seen {
		u.Num = u.Num.ShiftLeft(exact.Places + more)
		n, _ := u.Floor()
		sides[i] = exact.OfInt(q.weights[i]).Times(n)
	}
	x, all := q.solve(sides)
	den := all.ShiftLeft(more)
	g := make([]exact.Fraction, len(seen))
	for i := range len(x) {
		n, _ := exact.Fraction{Neg: x[i].Neg, Num: x[i].Num, Den: den}.Floor()
		short, ok := exact.Short(n.Plus(exact.OfInt(-1)), 3) // a unit below what was reckoned, and above it
		if !ok {
			return nil, api.ErrLong
		}
		g[i] = short
	}
	if !q.hold(g, seen) {
		return nil, api.ErrLong
	}
	return written(len(g), func(i int) exact.Fraction { return g[i] })
}

// hold tells whether numbers solve the equations.
func (q equations) hold(g, seen []exact.Fraction) bool {
	for i := range len(g) {
		parts := []exact.Fraction{exact.OfInt(-q.weights[i]).Times(seen[i])}
		for j := max(0, i-q.order); j <= min(i+q.order, len(g)-1); j++ {
			parts = append(parts, exact.OfInt(q.at(i, j)).Times(g[j]))
		}
		if sum, ok := exact.Sum(parts...); !ok || sum.Sign() != 0 {
			return false
		}
	}
	return true
}
