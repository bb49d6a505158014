package span_test

import (
	"math"
	"math/big"
	"testing"

	"tontine/api"
	"tontine/span"
)

// 5.4: Hull, Meet, Within, Cmp of all spans whose ends are edges, told by their bounds.
func TestPairs(t *testing.T) {
	l := edgeSpans()
	for _, a := range l {
		for _, b := range l {
			x, y := boundsOf(a), boundsOf(b)
			low, high := x, y // whose lower end is the lesser one
			if low.low.cmp(high.low) > 0 {
				low, high = y, x
			}
			top, bottom := low.high, high.high // the greater one of the upper ends, and the lesser one
			if top.cmp(bottom) < 0 {
				top, bottom = bottom, top
			}
			what := " of " + toldSpan(a) + " and " + toldSpan(b)
			want(t, "Hull"+what, tell(span.Hull(a, b)), toldSpan(bounds{low.low, top}.span()))
			meet := api.ErrNone.Error()
			if high.low.cmp(bottom) <= 0 {
				meet = toldSpan(bounds{high.low, bottom}.span())
			}
			want(t, "Meet"+what, tell(span.Meet(a, b)), meet)
			within := x.low.cmp(y.low) >= 0 && x.high.cmp(y.high) <= 0
			want(t, "Within"+what, tellBool(span.Within(a, b)), tellBool(within, api.OK))
			order := 0
			if meet == api.ErrNone.Error() {
				order = int(math.Copysign(1, float64(x.low.cmp(y.low))))
			}
			want(t, "Cmp"+what, tellInt(span.Cmp(a, b)), tellInt(order, api.OK))
		}
	}
}

// 5.4, told in so many words: spans that touch in one number, that overlap, that lie apart, that lie within.
func TestPairsInWords(t *testing.T) {
	up := math.Nextafter(1, 2)
	for _, c := range []struct {
		a, b   api.Span
		hull   api.Span
		meet   string
		within bool
		order  int
	}{
		{of(0, 1), of(1, 2), of(0, 2), toldSpan(point(1)), false, 0},
		{of(1, 2), of(0, 1), of(0, 2), toldSpan(point(1)), false, 0},
		{of(0, 1), of(up, 2), of(0, 2), api.ErrNone.Error(), false, -1},
		{of(up, 2), of(0, 1), of(0, 2), api.ErrNone.Error(), false, 1},
		{of(0, 2), of(1, 3), of(0, 3), toldSpan(of(1, 2)), false, 0},
		{of(1, 2), of(0, 3), of(0, 3), toldSpan(of(1, 2)), true, 0},
		{of(0, 3), of(1, 2), of(0, 3), toldSpan(of(1, 2)), false, 0},
		{of(0, 3), of(0, 3), of(0, 3), toldSpan(of(0, 3)), true, 0},
		{of(0, 2), of(0, 3), of(0, 3), toldSpan(of(0, 2)), true, 0},
		{of(1, 3), of(0, 3), of(0, 3), toldSpan(of(1, 3)), true, 0},
		{of(-1, 0), of(0, 1), of(-1, 1), toldSpan(of(0, 0)), false, 0},
		{of(0, 0), of(0, 0), of(0, 0), toldSpan(of(0, 0)), true, 0},
		{point(5), line, line, toldSpan(point(5)), true, 0},
		{line, point(5), line, toldSpan(point(5)), false, 0},
		{line, line, line, toldSpan(line), true, 0},
		{of(-inf, 0), of(1, inf), line, api.ErrNone.Error(), false, -1},
		{of(1, inf), of(-inf, 0), line, api.ErrNone.Error(), false, 1},
		{of(-inf, 1), of(1, inf), line, toldSpan(point(1)), false, 0},
		{of(1, inf), of(2, inf), of(1, inf), toldSpan(of(2, inf)), false, 0},
		{of(2, inf), of(1, inf), of(1, inf), toldSpan(of(2, inf)), true, 0},
		{of(-inf, -greatest), of(greatest, inf), line, api.ErrNone.Error(), false, -1},
		{point(-least), of(0, 0), of(-least, 0), api.ErrNone.Error(), false, -1},
	} {
		what := " of " + toldSpan(c.a) + " and " + toldSpan(c.b)
		want(t, "Hull"+what, tell(span.Hull(c.a, c.b)), toldSpan(c.hull))
		want(t, "Meet"+what, tell(span.Meet(c.a, c.b)), c.meet)
		want(t, "Within"+what, tellBool(span.Within(c.a, c.b)), tellBool(c.within, api.OK))
		want(t, "Cmp"+what, tellInt(span.Cmp(c.a, c.b)), tellInt(c.order, api.OK))
	}
}

// 5.4: Has: of the ends themselves, and of what lies just inside and just outside of them.
func TestHas(t *testing.T) {
	little := power(-1100)
	var numbers []*big.Rat
	for _, x := range edges()[1:18] {
		numbers = append(numbers, rat(x), new(big.Rat).Add(rat(x), little), new(big.Rat).Sub(rat(x), little))
	}
	numbers = append(numbers, power(400), new(big.Rat).Neg(power(400)), big.NewRat(1, 3), big.NewRat(-1, 10), big.NewRat(1, 10))
	for _, a := range edgeSpans() {
		for _, r := range numbers {
			want(t, "whether "+toldSpan(a)+" has "+r.String(), tellBool(span.Has(a, ratio(r))), tellBool(holds(a, r), api.OK))
		}
	}
	for _, c := range []struct {
		a   api.Span
		r   *big.Rat
		has bool
	}{
		{of(0, 0.1), big.NewRat(1, 10), true}, {of(0.1, 1), big.NewRat(1, 10), false}, {point(0.1), big.NewRat(1, 10), false}, {point(0.5), big.NewRat(1, 2), true}, {of(0, 0), rat(0), true}, {of(0, least), power(-400), true}, {of(0, 0), power(-400), false}, {of(0, inf), power(400), true}, {of(0, greatest), power(400), false}, {of(-inf, 0), power(400), false}, {line, power(400), true}, {of(-1, 1), big.NewRat(-1, 1), true}, {of(-1, 1), big.NewRat(1, 1), true},
	} {
		want(t, "whether "+toldSpan(c.a)+" has "+c.r.String(), tellBool(span.Has(c.a, ratio(c.r))), tellBool(c.has, api.OK))
	}
}

// 5.5: Width and Middle.
func TestWidthMiddle(t *testing.T) {
	r := random(7)
	for _, a := range append(edgeSpans(), anySpans(r, 2000)...) {
		what := " of " + toldSpan(a)
		if math.IsInf(a.Lo, 0) || math.IsInf(a.Hi, 0) {
			want(t, "Width"+what, tellRatio(span.Width(a)), api.ErrWide.Error())
			want(t, "Middle"+what, tellFloat(span.Middle(a)), api.ErrWide.Error())
			continue
		}
		lo, hi := rat(a.Lo), rat(a.Hi)
		width := new(big.Rat).Sub(hi, lo)
		want(t, "Width"+what, tellRatio(span.Width(a)), width.Num().String()+"/"+width.Denom().String())
		half := new(big.Rat).Add(lo, hi)
		half.Mul(half, big.NewRat(1, 2))
		middle, _ := half.Float64()
		if half.Sign() < 0 {
			middle = math.Copysign(middle, -1)
		}
		want(t, "Middle"+what, tellFloat(span.Middle(a)), told(middle))
	}
}

// 5.5, told in so many words: ends far apart, and neighbours.
func TestWidthMiddleInWords(t *testing.T) {
	up := math.Nextafter(1, 2)
	twice := new(big.Int).Lsh(big.NewInt(1<<53-1), 972).String()
	for _, c := range []struct {
		a      api.Span
		width  string
		middle float64
	}{
		{of(0, 0), "0/1", 0}, {point(greatest), "0/1", greatest}, {point(-least), "0/1", -least}, {of(1, 1.5), "1/2", 1.25}, {of(-1, 1), "2/1", 0}, {of(-3, 1), "4/1", -1},
		{of(-greatest, greatest), twice + "/1", 0}, {of(math.Nextafter(greatest, 0), greatest), new(big.Int).Lsh(big.NewInt(1), 971).String() + "/1", math.Nextafter(greatest, 0)},
		{of(1, up), "1/4503599627370496", 1}, {of(up, math.Nextafter(up, 2)), "1/4503599627370496", math.Nextafter(up, 2)}, {of(-up, -1), "1/4503599627370496", -1},
		{of(0, least), "1/" + new(big.Int).Lsh(big.NewInt(1), 1074).String(), 0}, {of(-least, 0), "1/" + new(big.Int).Lsh(big.NewInt(1), 1074).String(), minus}, {of(least, 2*least), "1/" + new(big.Int).Lsh(big.NewInt(1), 1074).String(), 2 * least}, {of(-least, least), "1/" + new(big.Int).Lsh(big.NewInt(1), 1073).String(), 0},
		{of(0, greatest), new(big.Int).Lsh(big.NewInt(1<<53-1), 971).String() + "/1", greatest / 2},
	} {
		want(t, "Width of "+toldSpan(c.a), tellRatio(span.Width(c.a)), c.width)
		want(t, "Middle of "+toldSpan(c.a), tellFloat(span.Middle(c.a)), told(c.middle))
	}
	want(t, "ends far apart", tellFloat(span.Middle(of(least, 2))), told(1))
	want(t, "ends far apart, rounded once", tellFloat(span.Middle(of(2+0x1p-51, 1e300))), told(5e299))
	if w, e := span.Width(of(-greatest, least)); e != api.OK || len(w.Num) < 600 || len(w.Den) < 300 {
		t.Errorf("the longest width: %d and %d digits, %v", len(w.Num), len(w.Den), e)
	}
}
