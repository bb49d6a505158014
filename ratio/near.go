package ratio

import (
	"tontine/api"
	"tontine/exact"
	"tontine/whole"
)

// Between is the simplest fraction that is not below a and not above b (1.7).
func Between(a, b api.Ratio) (api.Ratio, api.Errno) {
	low, high, e := readTwo(a, b)
	if e != api.OK {
		return api.Ratio{}, e
	}
	if low.Cmp(high) > 0 {
		return api.Ratio{}, api.ErrRange
	}
	return exact.Simplest(low, high).Ratio()
}

// Near is the fraction nearest to a whose denominator is at most most (1.8).
func Near(a api.Ratio, most int) (api.Ratio, api.Errno) {
	f, e := exact.Read(a)
	if e != api.OK {
		return api.Ratio{}, e
	}
	if most < 1 || most > MaxNear {
		return api.Ratio{}, api.ErrRange
	}
	first, rest := f.Floor()
	if rest.Den.Cmp(whole.Of(uint64(most))) > 0 {
		rest = nearest(rest, uint64(most))
	}
	return first.Plus(rest).Ratio()
}

// smallFraction is one whose denominator is at most MaxNear, between 0 and 1.
type smallFraction struct {
	num, den uint64
}

func (s smallFraction) fraction() exact.Fraction {
	return exact.Fraction{Num: whole.Of(s.num), Den: whole.Of(s.den)}
}

// nearest is that of a fraction between 0 and 1 whose denominator is above most: one of the two neighbours among all fractions with such denominators, which are come to by going down the tree of Stern and Brocot.
func nearest(f exact.Fraction, most uint64) exact.Fraction {
	low, high := smallFraction{0, 1}, smallFraction{1, 1}
	for low.den+high.den <= most {
		middle := smallFraction{low.num + high.num, low.den + high.den}
		if f.Cmp(middle.fraction()) > 0 {
			low = middle
		} else {
			high = middle
		}
	}
	half := exact.Fraction{Num: whole.Of(low.num*high.den + high.num*low.den), Den: whole.Of(2 * low.den * high.den)}
	side := f.Cmp(half)
	if side < 0 || side == 0 && low.den <= high.den {
		return low.fraction()
	}
	return high.fraction()
}
