package float

import (
	"math/bits"

	"tontine/api"
	"tontine/exact"
	"tontine/whole"
)

// number is what comes to be rounded, and the flags that were raised on the way. Its kind is FloatNought, FloatInfinite or FloatNone; or FloatNormal, and then its size is (high 2^64 + low) 2^exp, which is above nought; more tells that it is somewhat greater yet, by less than 2^exp.
//
// Of a number that was made of a float high is 0, and there is no more of it.
type number struct {
	kind      int
	neg       bool
	high, low uint64
	exp       int
	more      bool
	flags     int
}

// take is the number of a float.
func take(x float64) number {
	p := Split(x)
	n := number{kind: p.Kind, neg: p.Neg, low: p.Mant, exp: p.Exp}
	if p.Kind == api.FloatSmall {
		n.kind = api.FloatNormal
	}
	return n
}

func nought(neg bool) number { return number{kind: api.FloatNought, neg: neg} }

func infinite(neg bool) number { return number{kind: api.FloatInfinite, neg: neg} }

func none() number { return number{kind: api.FloatNone} }

// ofSize is a whole number.
func ofSize(neg bool, size uint64) number {
	if size == 0 {
		return nought(false)
	}
	return number{kind: api.FloatNormal, neg: neg, low: size}
}

// ofQuotient is num by den, below nought if neg, told to 63 binary digits at least.
func ofQuotient(neg bool, num, den whole.Nat) number {
	if num.IsZero() {
		return nought(false)
	}
	lift := 63 - num.BitLen() + den.BitLen()
	if lift > 0 {
		num = num.ShiftLeft(lift)
	} else {
		den = den.ShiftLeft(-lift)
	}
	quotient, rest := num.DivMod(den)
	return number{kind: api.FloatNormal, neg: neg, low: quotient.Word(), exp: -lift, more: !rest.IsZero()}
}

// raised is the same number with the topmost bit of high set. Of one with more behind it the places that come in are noughts: these must be among those that rounding drops, ahead of the last one.
func (n number) raised() number {
	if n.high == 0 {
		n.high, n.low, n.exp = n.low, 0, n.exp-64
	}
	up := bits.LeadingZeros64(n.high)
	n.high, n.low, n.exp = n.high<<up|n.low>>(64-up), n.low<<up, n.exp-up
	return n
}

// lowered is the same number with all bits so many places further down; what drops out is told by more.
func (n number) lowered(places int) number {
	n.exp += places
	if places >= 64 {
		n.more = n.more || n.low != 0
		n.high, n.low, places = 0, n.high, places-64
	}
	n.more = n.more || n.low<<(64-min(places, 64)) != 0
	n.high, n.low = n.high>>places, n.low>>places|n.high<<(64-min(places, 64))
	return n
}

// round is the bits of the float of that format that n comes to by the way, and the flags.
func (f format) round(n number, way int) (uint64, int) {
	if n.kind != api.FloatNormal {
		return f.pack(api.Parts{Kind: n.kind, Neg: n.neg}), 0
	}
	n = n.raised()
	exp := max(n.exp+128-f.digits, f.least)
	mant, kept := cut(n.high, exp-n.exp-64, n.low != 0 || n.more, n.neg, way)
	if mant == 2*f.leastNormal() {
		mant, exp = f.leastNormal(), exp+1
	}
	flags := 0
	switch {
	case exp > f.greatest:
		return f.tooGreat(n.neg, way), api.FlagOver | api.FlagInexact
	case !kept && n.exp+128 < f.least+f.digits: // below the least normal one
		flags = api.FlagUnder | api.FlagInexact
	case !kept:
		flags = api.FlagInexact
	}
	return f.pack(f.finite(n.neg, mant, exp)), flags
}

// finite is the parts of m times 2^e.
func (f format) finite(neg bool, mant uint64, exp int) api.Parts {
	switch {
	case mant == 0:
		return api.Parts{Kind: api.FloatNought, Neg: neg}
	case mant < f.leastNormal():
		return api.Parts{Kind: api.FloatSmall, Neg: neg, Mant: mant, Exp: exp}
	}
	return api.Parts{Kind: api.FloatNormal, Neg: neg, Mant: mant, Exp: exp}
}

// tooGreat is the bits of what a number that is greater than all finite ones in size comes to. It lies nearer to the infinite one than to the greatest finite one, as the ways see it.
func (f format) tooGreat(neg bool, way int) uint64 {
	if exact.IsAway(neg, false, 1, way) {
		return f.pack(api.Parts{Kind: api.FloatInfinite, Neg: neg})
	}
	return f.pack(f.finite(neg, 2*f.leastNormal()-1, f.greatest))
}

// cut is mant (and more behind it, less than 1, or not) by 2^places, rounded to a whole number by the way; and whether nothing was lost. There is one place at least.
func cut(mant uint64, places int, more, neg bool, way int) (uint64, bool) {
	left := mant >> places
	rest := mant - left<<places
	if rest == 0 && !more {
		return left, true
	}
	if exact.IsAway(neg, left&1 == 1, besideHalf(rest, places, more), way) {
		left++
	}
	return left, false
}

// besideHalf tells whether what drops out is less than half of what stays, or half, or more (-1, 0, 1).
func besideHalf(rest uint64, places int, more bool) int {
	half := uint64(1) << (places - 1)
	switch {
	case places > 64 || rest < half:
		return -1
	case rest > half || more:
		return 1
	}
	return 0
}
