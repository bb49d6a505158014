// Package float is layer 2: floats by their bits, exact numbers rounded to floats, and operations with their flags (see shared/doc/02-float.md).
package float

import (
	"math"

	"tontine/api"
)

// format is what a size of floats is made of: how many binary digits m has, and the least and the greatest e, of m times 2^e.
type format struct {
	digits, least, greatest int
}

func floats() format { return format{53, -1074, 971} }

func smallFloats() format { return format{24, -149, 104} }

// leastNormal is the least m of a normal float. Its bit is not stored, so that just the fraction's bits are below it.
func (f format) leastNormal() uint64 { return 1 << (f.digits - 1) }

// topField is what stands in the exponent's bits of floats that are not finite: all of them are set.
func (f format) topField() uint64 { return uint64(f.greatest - f.least + 2) }

// signBit stands right above the exponent's bits.
func (f format) signBit() uint64 { return (f.topField() + 1) << (f.digits - 1) }

func (f format) split(bits uint64) api.Parts {
	neg := bits&f.signBit() != 0
	field := bits >> (f.digits - 1) & f.topField()
	fraction := bits & (f.leastNormal() - 1)
	switch {
	case field == f.topField() && fraction != 0:
		return api.Parts{Kind: api.FloatNone}
	case field == f.topField():
		return api.Parts{Kind: api.FloatInfinite, Neg: neg}
	case field != 0:
		return api.Parts{Kind: api.FloatNormal, Neg: neg, Mant: fraction | f.leastNormal(), Exp: int(field) - 1 + f.least}
	case fraction != 0:
		return api.Parts{Kind: api.FloatSmall, Neg: neg, Mant: fraction, Exp: f.least}
	}
	return api.Parts{Kind: api.FloatNought, Neg: neg}
}

// pack is the bits of the float whose parts are p. Of parts of no float it is any bits.
func (f format) pack(p api.Parts) uint64 {
	var bits uint64
	switch p.Kind {
	case api.FloatSmall:
		bits = p.Mant
	case api.FloatNormal:
		bits = uint64(p.Exp-f.least+1)<<(f.digits-1) | p.Mant&^f.leastNormal()
	case api.FloatInfinite:
		bits = f.topField() << (f.digits - 1)
	case api.FloatNone:
		bits = f.topField()<<(f.digits-1) | f.leastNormal()>>1
	}
	if p.Neg {
		bits |= f.signBit()
	}
	return bits
}

// join is the bits of the float whose parts are p. Whether there is one is told by taking apart what was put together.
func (f format) join(p api.Parts) (uint64, api.Errno) {
	bits := f.pack(p)
	if f.split(bits) != p {
		return 0, api.ErrParts
	}
	return bits, api.OK
}

// Split is what x is made of (2.1).
func Split(x float64) api.Parts {
	return floats().split(math.Float64bits(x))
}

// Split32 is what a small float is made of (2.1).
func Split32(x float32) api.Parts {
	return smallFloats().split(uint64(math.Float32bits(x)))
}

// Join is the float whose parts are p (2.1).
func Join(p api.Parts) (float64, api.Errno) {
	bits, e := floats().join(p)
	return math.Float64frombits(bits), e
}

// Join32 is the small float whose parts are p (2.1).
func Join32(p api.Parts) (float32, api.Errno) {
	bits, e := smallFloats().join(p)
	return math.Float32frombits(uint32(bits)), e
}

// isFinite tells whether p are the parts of a number.
func isFinite(p api.Parts) bool {
	return p.Kind != api.FloatInfinite && p.Kind != api.FloatNone
}
