package digits

import (
	"math/bits"
	"strconv"

	"tontine/api"
	"tontine/exact"
	"tontine/whole"
)

// between is what lies around a float, told in whole numbers: the float's size itself is floor, and something more or not; the whole numbers from low to high are just those that become the float.
type between struct {
	floor     uint64
	more      bool
	low, high uint64
}

// shortest is the digits of the float whose parts are p (no nought, and finite), and n; least is the least normal one of its size.
func shortest(p, least api.Parts) decimal {
	// With at least 18 digits ahead of the point there are whole numbers that become the float, since 17 digits are enough for any; and all of them are below 2 to the 64.
	exp := tens(p) - 17
	n := around(p, least, exp).roundest()
	return ofDigits(strconv.FormatUint(n, 10), exp)
}

// tens is the greatest whole number for which 10 to it is not above the size of p, or one less than that.
func tens(p api.Parts) int {
	twos := bits.Len64(p.Mant) + p.Exp - 1
	return twos * 315653 >> 20 // that is the logarithm of 2, by tens, near enough for all floats
}

// around is what lies around the float whose parts are p, in units of 10 to the exp.
func around(p, least api.Parts, exp int) between {
	// In units of 2 to the e - 2, where half the way to each neighbour is a whole number.
	size := 4 * p.Mant
	down, up := size-2, size+2
	if p.Mant == least.Mant && p.Exp > least.Exp { // below a power of two floats are half as far apart
		down = size - 1
	}
	// 2 to the a by 10 to the b is 2 to the a - b by 5 to the b.
	twos := p.Exp - 2 - exp
	above := whole.Of(5).Pow(max(-exp, 0)).ShiftLeft(max(twos, 0))
	below := whole.Of(5).Pow(max(exp, 0)).ShiftLeft(max(-twos, 0))
	in := func(n uint64) (uint64, bool) {
		quotient, rest := whole.Of(n).Mul(above).DivMod(below)
		return quotient.Word(), !rest.IsZero()
	}
	var b between
	b.floor, b.more = in(size)
	odd := p.Mant%2 == 1 // what is half way to a neighbour becomes the one that is even
	low, more := in(down)
	if more || odd {
		low++
	}
	high, more := in(up)
	if !more && odd {
		high--
	}
	b.low, b.high = low, high
	return b
}

// roundest is the whole number from low to high with the fewest digits ahead of the noughts at its end; of several the nearest one to the float; of two as near the one whose last digit ahead of the noughts is even.
func (b between) roundest() uint64 {
	unit := uint64(1)
	for b.floor/unit >= 10 {
		unit *= 10
	}
	for ; ; unit /= 10 {
		lower := b.floor - b.floor%unit
		upper := lower + unit
		switch {
		case lower < b.low && upper > b.high:
			continue
		case lower < b.low || upper <= b.high && b.isUpper(lower, unit):
			return upper
		}
		return lower
	}
}

// isUpper tells whether of lower and lower + unit, two multiples of unit, the upper one is nearer to the float, or as near and even. The unit is no 1.
func (b between) isUpper(lower, unit uint64) bool {
	half := 1
	switch beyond := 2 * (b.floor - lower); {
	case beyond < unit:
		half = -1
	case beyond == unit && !b.more:
		half = 0
	}
	return exact.IsAway(false, lower/unit%2 == 1, half, api.RoundHalfEven)
}
