package ratio

import (
	"tontine/api"
	"tontine/exact"
	"tontine/whole"
)

// fraction is an exact number that was taken apart: num by den, below nought if neg (nought never is).
type fraction struct {
	neg      bool
	num, den whole.Nat
}

// read takes a right exact number apart, or answers what is wrong with it.
func read(a api.Ratio) (fraction, api.Errno) {
	neg, num, den, e := exact.Read(a)
	return fraction{neg, num, den}, e
}

func readTwo(a, b api.Ratio) (fraction, fraction, api.Errno) {
	f, e := read(a)
	if e != api.OK {
		return fraction{}, fraction{}, e
	}
	g, e := read(b)
	if e != api.OK {
		return fraction{}, fraction{}, e
	}
	return f, g, api.OK
}

// answer writes a fraction in lowest terms, unless it is too long.
func answer(f fraction) (api.Ratio, api.Errno) {
	return exact.Write(f.neg, f.num, f.den)
}

// lowest is num by den, in lowest terms.
func lowest(neg bool, num, den whole.Nat) fraction {
	common := num.GCD(den)
	return fraction{neg && !num.IsZero(), by(num, common), by(den, common)}
}

// wholeFraction is a whole number as a fraction.
func wholeFraction(neg bool, n whole.Nat) fraction {
	return fraction{neg && !n.IsZero(), n, whole.Of(1)}
}

// by is n by one of its divisors.
func by(n, divisor whole.Nat) whole.Nat {
	if divisor.IsOne() {
		return n
	}
	quotient, _ := n.DivMod(divisor)
	return quotient
}

func (f fraction) sign() int {
	switch {
	case f.neg:
		return -1
	case f.num.IsZero():
		return 0
	}
	return 1
}

func (f fraction) negated() fraction {
	return fraction{!f.neg && !f.num.IsZero(), f.num, f.den}
}

// inverse is 1 by f, which is not nought.
func (f fraction) inverse() fraction {
	return fraction{f.neg, f.den, f.num}
}

// compare is right also of fractions that are not in lowest terms.
func compare(f, g fraction) int {
	switch {
	case f.neg && g.neg:
		f, g = g, f
	case f.neg:
		return -1
	case g.neg:
		return 1
	}
	return f.num.Mul(g.den).Cmp(g.num.Mul(f.den))
}

// plus is f + g, in lowest terms if both are. By Knuth's way the divisors that are looked for stay short: what is common to numerator and denominator divides what is common to both denominators.
func plus(f, g fraction) fraction {
	common := f.den.GCD(g.den)
	part := by(f.den, common)
	neg, num := plusSigned(f.neg, f.num.Mul(by(g.den, common)), g.neg, g.num.Mul(part))
	left := num.GCD(common)
	return fraction{neg, by(num, left), part.Mul(by(g.den, left))}
}

// plusSigned is the sum of two whole numbers, by sign and size.
func plusSigned(negX bool, x whole.Nat, negY bool, y whole.Nat) (bool, whole.Nat) {
	if negX == negY {
		return negX, x.Add(y)
	}
	switch x.Cmp(y) {
	case 0:
		return false, whole.Nat{}
	case 1:
		return negX, x.Sub(y)
	}
	return negY, y.Sub(x)
}

// times is f times g, in lowest terms if both are: only what stands crosswise can have a common divisor.
func times(f, g fraction) fraction {
	first, second := f.num.GCD(g.den), g.num.GCD(f.den)
	num := by(f.num, first).Mul(by(g.num, second))
	den := by(f.den, second).Mul(by(g.den, first))
	return fraction{f.neg != g.neg && !num.IsZero(), num, den}
}

// floor is the greatest whole number that is not above f, and what is left of f, from nought to below 1.
func floor(f fraction) (fraction, fraction) {
	n, rest := f.num.DivMod(f.den)
	if f.neg && !rest.IsZero() {
		n, rest = n.Add(whole.Of(1)), f.den.Sub(rest)
	}
	return wholeFraction(f.neg, n), fraction{false, rest, f.den}
}
