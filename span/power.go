package span

import (
	"math"

	"tontine/api"
	"tontine/exact"
	"tontine/float"
	"tontine/whole"
)

// Pow is the span of all x to the n (5.3).
func Pow(a api.Span, n int) (api.Span, api.Errno) {
	if e := Check(a); e != api.OK {
		return api.Span{}, e
	}
	switch {
	case n < 0 || n > MaxPower:
		return api.Span{}, api.ErrRange
	case n%2 == 0:
		a = sizes(a)
	}
	return between(power(a.Lo, n, api.RoundFloor), power(a.Hi, n, api.RoundCeil)), api.OK
}

// sizes is the span of the sizes of all x.
func sizes(a api.Span) api.Span {
	lo, hi := math.Abs(a.Lo), math.Abs(a.Hi)
	if a.Lo < 0 && a.Hi > 0 {
		return api.Span{Lo: 0, Hi: max(lo, hi)}
	}
	return api.Span{Lo: min(lo, hi), Hi: max(lo, hi)}
}

// power is x to the n, rounded once by the way; x is not below nought, or n is odd.
func power(x float64, n, way int) float64 {
	p := float.Split(x)
	switch {
	case n == 0:
		return 1
	case p.Kind == api.FloatNought || p.Kind == api.FloatInfinite:
		return x
	}
	return rounded(p.Neg, whole.Of(p.Mant).Pow(n), p.Exp*n, way)
}

// 2 to the farthest is beyond all finite floats, and 2 to the -farthest is below the least one above nought.
const farthest = 1100

// rounded is n, which is not nought, times 2^exp, below nought if neg, rounded by the way. What is farther out than farthest is rounded as what is just as far: so no number is too long.
func rounded(neg bool, n whole.Nat, exp, way int) float64 {
	digits := n.BitLen() + exp
	exp += max(-farthest, min(digits, farthest)) - digits
	r, _ := exact.WriteScaled(neg, n, exp)
	x, _ := float.Round(r, way)
	return x
}
