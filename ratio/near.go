package ratio

import (
	"tontine/api"
	"tontine/exact"
	"tontine/whole"
)

// Between is the simplest fraction that is not below a and not above b (1.7).
func Between(a, b api.Ratio) (api.Ratio, api.Errno) {
	low, high, e := readTwo(a, b)
	if e != api.OK {
		return api.Ratio{}, e
	}
	if low.Cmp(high) > 0 {
		return api.Ratio{}, api.ErrRange
	}
	return simplest(low, high).Ratio()
}

// simplest is the simplest fraction from low to high, which need not be in lowest terms.
func simplest(low, high exact.Fraction) exact.Fraction {
	if low.Sign() <= 0 && high.Sign() >= 0 {
		return exact.OfWhole(false, whole.Nat{})
	}
	if high.Neg {
		return simplestAbove(high.Negated(), low.Negated()).Negated()
	}
	return simplestAbove(low, high)
}

// simplestAbove is that of two that are above nought. Where no whole number lies between them, their continued fractions begin with the same term; the simplest one begins with it too, and goes on with the simplest one between 1 by what is left of both.
func simplestAbove(low, high exact.Fraction) exact.Fraction {
	c := newConvergent()
	for {
		term, rest := low.Num.DivMod(low.Den)
		if rest.IsZero() {
			return c.next(term).fraction()
		}
		product := term.Mul(high.Den)
		if product.Add(high.Den).Cmp(high.Num) <= 0 {
			return c.next(term.Add(whole.Of(1))).fraction()
		}
		c = c.next(term)
		low, high = exact.Fraction{Num: high.Den, Den: high.Num.Sub(product)}, exact.Fraction{Num: low.Den, Den: rest}
	}
}

// Near is the fraction nearest to a whose denominator is at most most (1.8).
func Near(a api.Ratio, most int) (api.Ratio, api.Errno) {
	f, e := exact.Read(a)
	if e != api.OK {
		return api.Ratio{}, e
	}
	if most < 1 || most > MaxNear {
		return api.Ratio{}, api.ErrRange
	}
	first, rest := f.Floor()
	if rest.Den.Cmp(whole.Of(uint64(most))) > 0 {
		rest = nearest(rest, uint64(most))
	}
	return first.Plus(rest).Ratio()
}

// smallFraction is one whose denominator is at most MaxNear, between 0 and 1.
type smallFraction struct {
	num, den uint64
}

func (s smallFraction) fraction() exact.Fraction {
	return exact.Fraction{Num: whole.Of(s.num), Den: whole.Of(s.den)}
}

// nearest is that of a fraction between 0 and 1 whose denominator is above most: one of the two neighbours among all fractions with such denominators, which are come to by going down the tree of Stern and Brocot.
func nearest(f exact.Fraction, most uint64) exact.Fraction {
	low, high := smallFraction{0, 1}, smallFraction{1, 1}
	for low.den+high.den <= most {
		middle := smallFraction{low.num + high.num, low.den + high.den}
		if f.Cmp(middle.fraction()) > 0 {
			low = middle
		} else {
			high = middle
		}
	}
	half := exact.Fraction{Num: whole.Of(low.num*high.den + high.num*low.den), Den: whole.Of(2 * low.den * high.den)}
	side := f.Cmp(half)
	if side < 0 || side == 0 && low.den <= high.den {
		return low.fraction()
	}
	return high.fraction()
}
