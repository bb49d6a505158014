package exact

import (
	"tontine/api"
	"tontine/whole"
)

// Fraction is an exact number as it is reckoned with: Num by Den, below nought if Neg (nought never is). It may have more digits than one that is answered.
type Fraction struct {
	Neg      bool
	Num, Den whole.Nat
}

// Lowest is num by den, in lowest terms, below nought if neg.
func Lowest(neg bool, num, den whole.Nat) Fraction {
	common := num.GCD(den)
	return Fraction{neg && !num.IsZero(), by(num, common), by(den, common)}
}

// OfWhole is a whole number, below nought if neg.
func OfWhole(neg bool, n whole.Nat) Fraction {
	return Fraction{neg && !n.IsZero(), n, whole.Of(1)}
}

// OfInt is n.
func OfInt(n int) Fraction {
	size := uint64(n)
	if n < 0 { // right of the least int too, whose size is no int
		size = -size
	}
	return OfWhole(n < 0, whole.Of(size))
}

// by is n by one of its divisors.
func by(n, divisor whole.Nat) whole.Nat {
	if divisor.IsOne() {
		return n
	}
	quotient, _ := n.DivMod(divisor)
	return quotient
}

// Ratio is f, which is in lowest terms, unless it is too long (R2).
func (f Fraction) Ratio() (api.Ratio, api.Errno) {
	return Write(f.Neg, f.Num, f.Den)
}

// IsLong tells whether f, which is in lowest terms, has too many digits above or below (R2).
func (f Fraction) IsLong() bool {
	return isLong(f.Num) || isLong(f.Den)
}

// isLong writes only those numbers of which their binary digits do not tell it.
func isLong(n whole.Nat) bool {
	return n.BitLen() > MostBits || n.BitLen() > fewBits && len(n.Text()) > api.MaxDigits
}

// Sign is -1, 0 or 1: f is below nought, is nought, is above nought.
func (f Fraction) Sign() int {
	switch {
	case f.Neg:
		return -1
	case f.Num.IsZero():
		return 0
	}
	return 1
}

// Negated is -f.
func (f Fraction) Negated() Fraction {
	return Fraction{!f.Neg && !f.Num.IsZero(), f.Num, f.Den}
}

// Inverse is 1 by f, which is not nought.
func (f Fraction) Inverse() Fraction {
	return Fraction{f.Neg, f.Den, f.Num}
}

// Cmp is -1, 0 or 1: f is below g, is g, is above g. It is right also of fractions that are not in lowest terms.
func (f Fraction) Cmp(g Fraction) int {
	switch {
	case f.Neg && g.Neg:
		f, g = g, f
	case f.Neg:
		return -1
	case g.Neg:
		return 1
	}
	return f.Num.Mul(g.Den).Cmp(g.Num.Mul(f.Den))
}

// Plus is f + g, in lowest terms if both are. By Knuth's way the divisors that are looked for stay short: what is common to numerator and denominator divides what is common to both denominators.
func (f Fraction) Plus(g Fraction) Fraction {
	common := f.Den.GCD(g.Den)
	part := by(f.Den, common)
	neg, num := PlusSigned(f.Neg, f.Num.Mul(by(g.Den, common)), g.Neg, g.Num.Mul(part))
	left := num.GCD(common)
	return Fraction{neg, by(num, left), part.Mul(by(g.Den, left))}
}

// PlusSigned is the sum of two whole numbers, by sign and size.
func PlusSigned(negX bool, x whole.Nat, negY bool, y whole.Nat) (bool, whole.Nat) {
	if negX == negY {
		return negX, x.Add(y)
	}
	switch x.Cmp(y) {
	case 0:
		return false, whole.Nat{}
	case 1:
		return negX, x.Sub(y)
	}
	return negY, y.Sub(x)
}

// Times is f times g, in lowest terms if both are: only what stands crosswise can have a common divisor.
func (f Fraction) Times(g Fraction) Fraction {
	first, second := f.Num.GCD(g.Den), g.Num.GCD(f.Den)
	num := by(f.Num, first).Mul(by(g.Num, second))
	den := by(f.Den, second).Mul(by(g.Den, first))
	return Fraction{f.Neg != g.Neg && !num.IsZero(), num, den}
}

// Power is f to the n, in lowest terms if f is; f is not nought, or n is not below 0.
func (f Fraction) Power(n int) Fraction {
	if n < 0 {
		f, n = f.Inverse(), -n
	}
	return Fraction{f.Neg && n%2 == 1, f.Num.Pow(n), f.Den.Pow(n)}
}

// Floor is the greatest whole number that is not above f, and what is left of f, from nought to below 1.
func (f Fraction) Floor() (Fraction, Fraction) {
	n, rest := f.Num.DivMod(f.Den)
	if f.Neg && !rest.IsZero() {
		n, rest = n.Add(whole.Of(1)), f.Den.Sub(rest)
	}
	return OfWhole(f.Neg, n), Fraction{false, rest, f.Den}
}

// Round is the whole number that f becomes by the way. It is right also of fractions that are not in lowest terms.
func (f Fraction) Round(way int) Fraction {
	n, rest := f.Num.DivMod(f.Den)
	if !rest.IsZero() && IsAway(f.Neg, n.IsOdd(), rest.ShiftLeft(1).Cmp(f.Den), way) {
		n = n.Add(whole.Of(1))
	}
	return OfWhole(f.Neg, n)
}
