package ratio

import (
	"tontine/api"
	"tontine/whole"
)

// Between is the simplest fraction that is not below a and not above b (1.7).
func Between(a, b api.Ratio) (api.Ratio, api.Errno) {
	low, high, e := readTwo(a, b)
	if e != api.OK {
		return api.Ratio{}, e
	}
	if compare(low, high) > 0 {
		return api.Ratio{}, api.ErrRange
	}
	return answer(simplest(low, high))
}

// simplest is the simplest fraction from low to high, which need not be in lowest terms.
func simplest(low, high fraction) fraction {
	if low.sign() <= 0 && high.sign() >= 0 {
		return wholeFraction(false, whole.Nat{})
	}
	if high.neg {
		return simplestAbove(high.negated(), low.negated()).negated()
	}
	return simplestAbove(low, high)
}

// simplestAbove is that of two that are above nought. Where no whole number lies between them, their continued fractions begin with the same term; the simplest one begins with it too, and goes on with the simplest one between 1 by what is left of both.
func simplestAbove(low, high fraction) fraction {
	c := newConvergent()
	for {
		term, rest := low.num.DivMod(low.den)
		if rest.IsZero() {
			return c.next(term).fraction()
		}
		product := term.Mul(high.den)
		if product.Add(high.den).Cmp(high.num) <= 0 {
			return c.next(term.Add(whole.Of(1))).fraction()
		}
		c = c.next(term)
		low, high = fraction{false, high.den, high.num.Sub(product)}, fraction{false, low.den, rest}
	}
}

// Near is the fraction nearest to a whose denominator is at most most (1.8).
func Near(a api.Ratio, most int) (api.Ratio, api.Errno) {
	f, e := read(a)
	if e != api.OK {
		return api.Ratio{}, e
	}
	if most < 1 || most > MaxNear {
		return api.Ratio{}, api.ErrRange
	}
	first, rest := floor(f)
	if rest.den.Cmp(whole.Of(uint64(most))) > 0 {
		rest = nearest(rest, uint64(most))
	}
	return answer(plus(first, rest))
}

// smallFraction is one whose denominator is at most MaxNear, between 0 and 1.
type smallFraction struct {
	num, den uint64
}

func (s smallFraction) fraction() fraction {
	return fraction{false, whole.Of(s.num), whole.Of(s.den)}
}

// nearest is that of a fraction between 0 and 1 whose denominator is above most: one of the two neighbours among all fractions with such denominators, which are come to by going down the tree of Stern and Brocot.
func nearest(f fraction, most uint64) fraction {
	low, high := smallFraction{0, 1}, smallFraction{1, 1}
	for low.den+high.den <= most {
		middle := smallFraction{low.num + high.num, low.den + high.den}
		if compare(f, middle.fraction()) > 0 {
			low = middle
		} else {
			high = middle
		}
	}
	half := fraction{false, whole.Of(low.num*high.den + high.num*low.den), whole.Of(2 * low.den * high.den)}
	side := compare(f, half)
	if side < 0 || side == 0 && low.den <= high.den {
		return low.fraction()
	}
	return high.fraction()
}
