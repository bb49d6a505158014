package exact

import "tontine/whole"

// Simplest is the simplest fraction from low to high, which need not be in lowest terms: the one with the least denominator, and of those the one whose numerator's size is least.
func Simplest(low, high Fraction) Fraction {
	if low.Sign() <= 0 && high.Sign() >= 0 {
		return OfInt(0)
	}
	if high.Neg {
		return simplestAbove(high.Negated(), low.Negated()).Negated()
	}
	return simplestAbove(low, high)
}

// simplestAbove is that of two that are above nought. Where no whole number lies between them, their continued fractions begin with the same term; the simplest one begins with it too, and goes on with the simplest one between 1 by what is left of both.
func simplestAbove(low, high Fraction) Fraction {
	c := NewConvergent()
	for {
		term, rest := low.Num.DivMod(low.Den)
		if rest.IsZero() {
			return c.Next(term).Fraction()
		}
		product := term.Mul(high.Den)
		if product.Add(high.Den).Cmp(high.Num) <= 0 {
			return c.Next(term.Add(whole.Of(1))).Fraction()
		}
		c = c.Next(term)
		low, high = Fraction{Num: high.Den, Den: high.Num.Sub(product)}, Fraction{Num: low.Den, Den: rest}
	}
}

// Convergent is what the first terms of a continued fraction come to, Num by Den, and beside it (numAgo, denAgo) what came of one term less.
type Convergent struct {
	Num, Den, numAgo, denAgo whole.Nat
}

// NewConvergent is that of no term.
func NewConvergent() Convergent {
	return Convergent{Num: whole.Of(1), denAgo: whole.Of(1)}
}

// Next is that of one term more.
func (c Convergent) Next(term whole.Nat) Convergent {
	return Convergent{
		Num:    term.Mul(c.Num).Add(c.numAgo),
		Den:    term.Mul(c.Den).Add(c.denAgo),
		numAgo: c.Num,
		denAgo: c.Den,
	}
}

// Fraction is always in lowest terms: Num denAgo - Den numAgo is 1 or -1.
func (c Convergent) Fraction() Fraction {
	return Fraction{Num: c.Num, Den: c.Den}
}
