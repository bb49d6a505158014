package float

import (
	"cmp"
	"math"

	"tontine/api"
)

const signBit = 1 << 63

// size is the bits of x without the sign: how many steps lie between nought and x, if x is a number or infinite.
func size(x float64) uint64 {
	return math.Float64bits(x) &^ signBit
}

// Up is the next float above x (2.3).
func Up(x float64) float64 {
	switch {
	case math.IsNaN(x) || math.IsInf(x, 1):
		return x
	case x == 0:
		return math.Float64frombits(1)
	case x < 0:
		return math.Float64frombits(math.Float64bits(x) - 1)
	}
	return math.Float64frombits(math.Float64bits(x) + 1)
}

// Down is the next float below x (2.3).
func Down(x float64) float64 {
	return -Up(-x)
}

// Steps is how often Up leads from the lesser one of both to the greater one (2.3).
func Steps(x, y float64) (uint64, bool) {
	switch {
	case math.IsNaN(x) || math.IsNaN(y):
		return 0, false
	case math.Signbit(x) != math.Signbit(y):
		return size(x) + size(y), true
	}
	return max(size(x), size(y)) - min(size(x), size(y)), true
}

// Order is -1, 0 or 1: x is ahead of y in the total order, is the same there, is behind y (2.3).
func Order(x, y float64) int {
	return cmp.Compare(rank(x), rank(y))
}

// rank rises with the total order.
func rank(x float64) int64 {
	switch {
	case math.IsNaN(x):
		return math.MaxInt64
	case math.Signbit(x):
		return -1 - int64(size(x))
	}
	return int64(size(x))
}

// Same tells whether x and y are the same float (2.3).
func Same(x, y float64) bool {
	return Order(x, y) == 0
}

// Gap is how far the floats of x's exponent are apart (2.3).
func Gap(x float64) (float64, bool) {
	p := Split(x)
	if !isFinite(p) {
		return 0, false
	}
	if p.Kind == api.FloatNought {
		p.Exp = floats().least
	}
	bits, _ := floats().round(number{kind: api.FloatNormal, low: 1, exp: p.Exp}, api.RoundHalfEven)
	return math.Float64frombits(bits), true
}
