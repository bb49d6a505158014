package float

import (
	"math"
	"math/bits"

	"tontine/api"
	"tontine/exact"
	"tontine/whole"
)

// Exact is x's number (2.2).
func Exact(x float64) (api.Ratio, api.Errno) {
	return exactOf(Split(x))
}

// Exact32 is a small float's number (2.2).
func Exact32(x float32) (api.Ratio, api.Errno) {
	return exactOf(Split32(x))
}

func exactOf(p api.Parts) (api.Ratio, api.Errno) {
	if !isFinite(p) {
		return api.Ratio{}, api.ErrNotFinite
	}
	return exact.WriteScaled(p.Neg, whole.Of(p.Mant), p.Exp)
}

// Round is the float that r comes to (2.2).
func Round(r api.Ratio, way int) (float64, api.Errno) {
	word, e := floats().ofExact(r, way)
	return math.Float64frombits(word), e
}

// Round32 is the small float that r comes to (2.2).
func Round32(r api.Ratio, way int) (float32, api.Errno) {
	word, e := smallFloats().ofExact(r, way)
	return math.Float32frombits(uint32(word)), e
}

func (f format) ofExact(r api.Ratio, way int) (uint64, api.Errno) {
	n, e := exact.Read(r)
	switch {
	case e != api.OK:
		return 0, e
	case !exact.IsWay(way):
		return 0, api.ErrRange
	}
	word, _ := f.round(ofQuotient(n.Neg, n.Num, n.Den), way)
	return word, api.OK
}

// Narrow is the small float that x's number comes to (2.2).
func Narrow(x float64, way int) (float32, api.Errno) {
	if !exact.IsWay(way) {
		return 0, api.ErrRange
	}
	word, _ := smallFloats().round(take(x), way)
	return math.Float32frombits(uint32(word)), api.OK
}

// Widen is the float of the same number and sign (2.2).
func Widen(x float32) float64 {
	return float64(x)
}

// Whole is the whole number that x's number comes to (2.5).
func Whole(x float64, way int) (int, api.Errno) {
	if !exact.IsWay(way) {
		return 0, api.ErrRange
	}
	p := Split(x)
	if !isFinite(p) {
		return 0, api.ErrNotFinite
	}
	n, ok := wholeSize(p, way)
	switch {
	case ok && p.Neg && n <= signBit:
		return int(-n), api.OK
	case ok && !p.Neg && n < signBit:
		return int(n), api.OK
	}
	return 0, api.ErrRange
}

// wholeSize is the size of that whole number, or false, if it has more than 64 binary digits.
func wholeSize(p api.Parts, way int) (uint64, bool) {
	if p.Exp < 0 {
		n, _ := cut(p.Mant, -p.Exp, false, p.Neg, way)
		return n, true
	}
	return p.Mant << p.Exp, bits.Len64(p.Mant)+p.Exp <= 64
}

// OfInt is the float that n comes to (2.5).
func OfInt(n int, way int) (float64, api.Errno) {
	if !exact.IsWay(way) {
		return 0, api.ErrRange
	}
	size := uint64(n)
	if n < 0 { // right of the least int too, whose size is no int
		size = -size
	}
	word, _ := floats().round(ofSize(n < 0, size), way)
	return math.Float64frombits(word), api.OK
}
