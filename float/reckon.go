package float

import (
	"math"
	"math/bits"

	"tontine/api"
	"tontine/exact"
)

// Add is x + y (2.4).
func Add(x, y float64, way int) (float64, int, api.Errno) {
	return answer(plus(take(x), take(y), way), way)
}

// Mul is x times y (2.4).
func Mul(x, y float64, way int) (float64, int, api.Errno) {
	return answer(times(take(x), take(y)), way)
}

// Div is x by y (2.4).
func Div(x, y float64, way int) (float64, int, api.Errno) {
	return answer(by(take(x), take(y)), way)
}

// Fused is x times y and z (2.4).
func Fused(x, y, z float64, way int) (float64, int, api.Errno) {
	return answer(plus(times(take(x), take(y)), take(z), way), way)
}

// Root is the square root of x (2.4).
func Root(x float64, way int) (float64, int, api.Errno) {
	return answer(root(take(x)), way)
}

// answer is what an operation's number comes to by the way, and all flags.
func answer(n number, way int) (float64, int, api.Errno) {
	if !exact.IsWay(way) {
		return 0, 0, api.ErrRange
	}
	word, flags := floats().round(n, way)
	return math.Float64frombits(word), n.flags | flags, api.OK
}

// invalid is what an operation comes to that has no answer.
func invalid() number { return number{kind: api.FloatNone, flags: api.FlagInvalid} }

// plus is a + b. Of both only a may be what another operation came to: so b, if it is none, was handed in, and no flag is told.
func plus(a, b number, way int) number {
	switch {
	case b.kind == api.FloatNone:
		return b
	case a.kind == api.FloatNone:
		return a
	case a.kind == api.FloatInfinite && b.kind == api.FloatInfinite && a.neg != b.neg:
		return invalid()
	case a.kind == api.FloatInfinite || b.kind == api.FloatNought && a.kind != api.FloatNought:
		return a
	case b.kind == api.FloatInfinite || a.kind == api.FloatNought && b.kind != api.FloatNought:
		return b
	case a.kind == api.FloatNought && a.neg == b.neg:
		return a
	case a.kind == api.FloatNought:
		return cancelled(way)
	}
	return plusFinite(a, b, way)
}

// cancelled is a sum that is nought though its parts were not alike.
func cancelled(way int) number { return nought(way == api.RoundFloor) }

// plusFinite is the sum of two that are neither nought nor infinite. Both are lifted so that just one place is left for a carry. Bits of the lesser one drop out only where it lies so far below the greater one that at most one of its places is lost by taking it away: enough are left to round by.
func plusFinite(a, b number, way int) number {
	a, b = a.raised().lowered(1), b.raised().lowered(1)
	if isLess(a, b) {
		a, b = b, a
	}
	b = b.lowered(a.exp - b.exp)
	sum := a
	sum.more = b.more
	var carry uint64
	if a.neg == b.neg {
		sum.low, carry = bits.Add64(a.low, b.low, 0)
		sum.high, _ = bits.Add64(a.high, b.high, carry)
		return sum
	}
	if b.more { // the rest of one more is what stays behind
		carry = 1
	}
	sum.low, carry = bits.Sub64(a.low, b.low, carry)
	sum.high, _ = bits.Sub64(a.high, b.high, carry)
	if sum.high == 0 && sum.low == 0 {
		return cancelled(way)
	}
	return sum
}

// isLess holds the sizes of two against each other that were lifted alike.
func isLess(a, b number) bool {
	switch {
	case a.exp != b.exp:
		return a.exp < b.exp
	case a.high != b.high:
		return a.high < b.high
	}
	return a.low < b.low
}

// times is a times b, of two floats.
func times(a, b number) number {
	neg := a.neg != b.neg
	switch {
	case a.kind == api.FloatNone || b.kind == api.FloatNone:
		return none()
	case a.kind == api.FloatInfinite && b.kind == api.FloatNought, a.kind == api.FloatNought && b.kind == api.FloatInfinite:
		return invalid()
	case a.kind == api.FloatInfinite || b.kind == api.FloatInfinite:
		return infinite(neg)
	case a.kind == api.FloatNought || b.kind == api.FloatNought:
		return nought(neg)
	}
	high, low := bits.Mul64(a.low, b.low)
	return number{kind: api.FloatNormal, neg: neg, high: high, low: low, exp: a.exp + b.exp}
}

// by is a by b, of two floats.
func by(a, b number) number {
	neg := a.neg != b.neg
	switch {
	case a.kind == api.FloatNone || b.kind == api.FloatNone:
		return none()
	case a.kind == b.kind && a.kind != api.FloatNormal:
		return invalid()
	case a.kind == api.FloatInfinite:
		return infinite(neg)
	case a.kind == api.FloatNought || b.kind == api.FloatInfinite:
		return nought(neg)
	case b.kind == api.FloatNought:
		return number{kind: api.FloatInfinite, neg: neg, flags: api.FlagZero}
	}
	a, b = a.raised().lowered(1), b.raised() // so that the quotient has 63 places or 64
	quotient, rest := bits.Div64(a.high, a.low, b.high)
	return number{kind: api.FloatNormal, neg: neg, low: quotient, exp: a.exp - b.exp - 64, more: rest != 0}
}

// root is the square root of a float.
func root(a number) number {
	switch {
	case a.kind == api.FloatNone || a.kind == api.FloatNought:
		return a
	case a.neg:
		return invalid()
	case a.kind == api.FloatInfinite:
		return a
	}
	a = a.raised()
	if a.exp%2 != 0 {
		a = a.lowered(1)
	}
	half := rootDown(a.high, a.low)
	high, low := bits.Mul64(half, half)
	return number{kind: api.FloatNormal, low: half, exp: a.exp / 2, more: high != a.high || low != a.low}
}

// rootDown is the square root of a number of two words, rounded down.
func rootDown(high, low uint64) uint64 {
	var found uint64
	for i := range 64 {
		try := found | 1<<(63-i)
		h, l := bits.Mul64(try, try)
		if h < high || h == high && l <= low {
			found = try
		}
	}
	return found
}
