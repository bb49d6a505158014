package span

import (
	"math"

	"tontine/api"
	"tontine/float"
)

// Neg is the span of all -x (5.3).
func Neg(a api.Span) (api.Span, api.Errno) {
	if e := Check(a); e != api.OK {
		return api.Span{}, e
	}
	return between(-a.Hi, -a.Lo), api.OK
}

// Add is the span of all x + y (5.3).
func Add(a, b api.Span) (api.Span, api.Errno) {
	if e := check(a, b); e != api.OK {
		return api.Span{}, e
	}
	return plus(a, b), api.OK
}

func plus(a, b api.Span) api.Span {
	lo, _, _ := float.Add(a.Lo, b.Lo, api.RoundFloor)
	hi, _, _ := float.Add(a.Hi, b.Hi, api.RoundCeil)
	return between(lo, hi)
}

// Sub is the span of all x - y (5.3).
func Sub(a, b api.Span) (api.Span, api.Errno) {
	if e := check(a, b); e != api.OK {
		return api.Span{}, e
	}
	return plus(a, api.Span{Lo: -b.Hi, Hi: -b.Lo}), api.OK
}

// Mul is the span of all x times y (5.3).
func Mul(a, b api.Span) (api.Span, api.Errno) {
	if e := check(a, b); e != api.OK {
		return api.Span{}, e
	}
	return outermost(a, b, float.Mul), api.OK
}

// Div is the span of all x by y, but of y that are nought (5.3).
func Div(a, b api.Span) (api.Span, api.Errno) {
	nought := api.Span{}
	switch e := check(a, b); {
	case e != api.OK:
		return api.Span{}, e
	case b == nought:
		return api.Span{}, api.ErrZero
	case b.Lo < 0 && b.Hi > 0 && a != nought: // quotients by what is as near to nought as one likes, on either side of it
		return wholeLine(), api.OK
	case b.Hi == 0: // nought is come to from below
		b.Hi = math.Copysign(0, -1)
	}
	return outermost(a, b, float.Div), api.OK
}

// operation is one of layer 2's, of two floats, rounded by a way.
type operation func(x, y float64, way int) (float64, int, api.Errno)

// outermost is the span of what the operation gives, if that is greatest and least at ends of a and of b.
func outermost(a, b api.Span, o operation) api.Span {
	lo, _ := amongFour(a, b, o.rounded(api.RoundFloor), float.Order)
	_, hi := amongFour(a, b, o.rounded(api.RoundCeil), float.Order)
	return between(lo, hi)
}

// rounded is the operation, rounded by the way. Where two ends have no answer it is nought: nought times all numbers, and nought by all others, is nought, however far out these go; and quotients by ever greater numbers come as near to nought as one likes.
func (o operation) rounded(way int) func(x, y float64) float64 {
	return func(x, y float64) float64 {
		z, flags, _ := o(x, y, way)
		if flags&api.FlagInvalid != 0 {
			return 0
		}
		return z
	}
}

// amongFour is the least and the greatest one of what is made of an end of a and an end of b.
func amongFour[T any](a, b api.Span, made func(x, y float64) T, order func(s, t T) int) (T, T) {
	least := made(a.Lo, b.Lo)
	greatest := least
	look := func(x, y float64) {
		t := made(x, y)
		if order(t, least) < 0 {
			least = t
		}
		if order(t, greatest) > 0 {
			greatest = t
		}
	}
	look(a.Lo, b.Hi)
	look(a.Hi, b.Lo)
	look(a.Hi, b.Hi)
	return least, greatest
}

// Root is the span of the square roots of all x that are not below nought (5.3).
func Root(a api.Span) (api.Span, api.Errno) {
	if e := Check(a); e != api.OK {
		return api.Span{}, e
	}
	if a.Hi < 0 {
		return api.Span{}, api.ErrRange
	}
	lo, _, _ := float.Root(max(a.Lo, 0), api.RoundFloor)
	hi, _, _ := float.Root(a.Hi, api.RoundCeil)
	return between(lo, hi), api.OK
}
