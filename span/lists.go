package span

import (
	"math"

	"tontine/api"
	"tontine/float"
	"tontine/tally"
)

// Sum is the span of all sums of a number of each (5.6).
func Sum(l []api.Span) (api.Span, api.Errno) {
	if e := checkList(l); e != api.OK {
		return api.Span{}, e
	}
	var low, high total
	for _, a := range l {
		low.add(tally.OfFloat(a.Lo))
		high.add(tally.OfFloat(a.Hi))
	}
	return between(low.rounded(api.RoundFloor), high.rounded(api.RoundCeil)), api.OK
}

// Dot is the span of all sums of products of a number of each of x with one of the one of y at the same place (5.6).
func Dot(x, y []api.Span) (api.Span, api.Errno) {
	if e := checkList(x); e != api.OK {
		return api.Span{}, e
	}
	if e := checkList(y); e != api.OK {
		return api.Span{}, e
	}
	if len(x) != len(y) {
		return api.Span{}, api.ErrPairs
	}
	var low, high total
	for i := range x {
		least, greatest := amongFour(x[i], y[i], product, tally.Term.Cmp)
		low.add(least)
		high.add(greatest)
	}
	return between(low.rounded(api.RoundFloor), high.rounded(api.RoundCeil)), api.OK
}

// Horner is the polynomial of the spans of l, the first one alone and the others with x to the 1, 2 and so on, from the last one to the first, each step rounded (5.7).
func Horner(l []api.Span, x api.Span) (api.Span, api.Errno) {
	if e := checkList(l); e != api.OK {
		return api.Span{}, e
	}
	if e := Check(x); e != api.OK {
		return api.Span{}, e
	}
	if len(l) == 0 {
		return api.Span{}, api.OK
	}
	last := len(l) - 1
	s := l[last]
	for i := range last {
		s = plus(l[last-1-i], outermost(s, x, float.Mul))
	}
	return s, api.OK
}

// checkList is ErrLong, if there are too many spans, ErrShape, if one is not right, or OK.
func checkList(l []api.Span) api.Errno {
	if len(l) > api.MaxItems {
		return api.ErrLong
	}
	return check(l...)
}

// product is the product of two ends; of a nought and an infinite one it is nought, as of a nought and all numbers.
func product(x, y float64) tally.Term {
	t := tally.OfProduct(x, y)
	if t.Kind == api.FloatNone {
		return tally.Term{Kind: api.FloatNought}
	}
	return t
}

// total is the sum of ends that all are lower ones, or all upper ones: so no two infinite ones have unlike signs.
type total struct {
	number   tally.Number
	infinite float64 // nought, if there is no such end
}

func (t *total) add(end tally.Term) {
	if end.Kind == api.FloatInfinite {
		t.infinite = math.Inf(sign(end.Neg))
	}
	t.number.Add(end)
}

func sign(neg bool) int {
	if neg {
		return -1
	}
	return 1
}

// rounded is what the ends come to, rounded once by the way.
func (t *total) rounded(way int) float64 {
	if t.infinite != 0 {
		return t.infinite
	}
	r, _ := t.number.Ratio() // with MaxItems terms it is never too long
	x, _ := float.Round(r, way)
	return x
}
