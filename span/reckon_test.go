package span_test

import (
	"fmt"
	"math"
	"testing"

	"tontine/api"
	"tontine/span"
)

// reckoned holds all operations of two spans against bounds that are reckoned exactly (5.3).
func reckoned(t *testing.T, a, b api.Span) {
	t.Helper()
	x, y := boundsOf(a), boundsOf(b)
	what := " of " + toldSpan(a) + " and " + toldSpan(b)
	want(t, "Add"+what, tell(span.Add(a, b)), toldSpan(x.plus(y).span()))
	want(t, "Sub"+what, tell(span.Sub(a, b)), toldSpan(x.plus(y.negated()).span()))
	want(t, "Mul"+what, tell(span.Mul(a, b)), toldSpan(x.times(y).span()))
	quotient := api.ErrZero.Error()
	if !y.isNought() {
		quotient = toldSpan(x.by(y).span())
	}
	want(t, "Div"+what, tell(span.Div(a, b)), quotient)
}

// 5.3: Add, Sub, Mul, Div of all spans whose ends are edges.
func TestReckonEdges(t *testing.T) {
	l := edgeSpans()
	for _, a := range l {
		for _, b := range l {
			reckoned(t, a, b)
		}
	}
}

// 5.3: of others, whose answers lie between floats.
func TestReckonAny(t *testing.T) {
	r := random(3)
	for range 10000 {
		reckoned(t, anySpan(r), anySpan(r))
	}
}

// 5.3: Neg.
func TestNeg(t *testing.T) {
	r := random(4)
	for _, a := range append(edgeSpans(), anySpans(r, 500)...) {
		want(t, "Neg of "+toldSpan(a), tell(span.Neg(a)), toldSpan(boundsOf(a).negated().span()))
	}
	want(t, "Neg of nought", tell(span.Neg(of(0, 0))), toldSpan(of(0, 0)))
	want(t, "Neg of [0, 1]", tell(span.Neg(of(0, 1))), toldSpan(of(-1, 0)))
	want(t, "Neg of [-1, 0]", tell(span.Neg(of(-1, 0))), toldSpan(of(0, 1)))
	want(t, "Neg of what has no upper bound", tell(span.Neg(of(3, inf))), toldSpan(of(-inf, -3)))
}

// 5.3, told in so many words: sums and differences.
func TestSumsInWords(t *testing.T) {
	up, down := math.Nextafter(1, 2), math.Nextafter(1, 0)
	for _, c := range []struct{ a, b, sum, difference api.Span }{
		{point(1), point(0x1p-60), of(1, up), of(down, 1)},
		{point(-1), point(-0x1p-60), of(-up, -1), of(-1, -down)},
		{point(1), point(1), point(2), point(0)},
		{of(0, 1), of(0, 1), of(0, 2), of(-1, 1)},
		{of(0, 0), of(0, 0), of(0, 0), of(0, 0)},
		{of(-1, 1), of(-1, 1), of(-2, 2), of(-2, 2)},
		{point(greatest), point(greatest), of(greatest, inf), point(0)},
		{point(-greatest), point(greatest), point(0), of(-inf, -greatest)},
		{point(greatest), point(least), of(greatest, inf), of(math.Nextafter(greatest, 0), greatest)},
		{line, point(1), line, line},
		{line, line, line, line},
		{of(1, inf), of(2, 3), of(3, inf), of(-2, inf)},
		{of(1, inf), of(1, inf), of(2, inf), line},
		{of(1, inf), of(-inf, -1), line, of(2, inf)},
		{of(-inf, 1), of(2, 3), of(-inf, 4), of(-inf, -1)},
		{point(least), point(least), point(2 * least), point(0)},
	} {
		what := " of " + toldSpan(c.a) + " and " + toldSpan(c.b)
		want(t, "Add"+what, tell(span.Add(c.a, c.b)), toldSpan(c.sum))
		want(t, "Sub"+what, tell(span.Sub(c.a, c.b)), toldSpan(c.difference))
	}
}

// 5.3, told in so many words: products.
func TestProductsInWords(t *testing.T) {
	up := math.Nextafter(1, 2)
	for _, c := range []struct{ a, b, product api.Span }{
		{of(2, 3), of(4, 5), of(8, 15)}, {of(-3, -2), of(4, 5), of(-15, -8)}, {of(-3, -2), of(-5, -4), of(8, 15)}, {of(-2, 3), of(4, 5), of(-10, 15)}, {of(-2, 3), of(-5, -4), of(-15, 10)},
		{of(-2, 3), of(-5, 4), of(-15, 12)}, {of(-3, 2), of(-5, 4), of(-12, 15)}, {of(-2, 3), of(-4, 5), of(-12, 15)}, {of(-3, 2), of(-4, 5), of(-15, 12)},
		{of(0, 0), line, of(0, 0)}, {of(0, 0), of(1, inf), of(0, 0)}, {of(0, 1), of(1, inf), of(0, inf)}, {of(-1, 0), of(1, inf), of(-inf, 0)}, {of(0, 1), line, line}, {of(-1, 1), of(1, inf), line}, {of(1, 2), of(-inf, -1), of(-inf, -1)}, {of(-2, -1), of(-inf, -1), of(1, inf)}, {of(0, inf), of(0, inf), of(0, inf)}, {of(0, inf), of(-inf, 0), of(-inf, 0)}, {of(1, inf), of(2, inf), of(2, inf)}, {line, line, line}, {of(-inf, 0), of(3, 3), of(-inf, 0)},
		{point(least), point(least), of(0, least)}, {point(-least), point(least), of(-least, 0)}, {of(-least, least), of(-least, least), of(-least, least)}, {point(greatest), point(2), of(greatest, inf)}, {point(-greatest), point(2), of(-inf, -greatest)}, {of(-greatest, greatest), point(2), line},
		{point(up), point(up), of(1+0x1p-51, 1+0x1p-51+0x1p-52)}, {point(-up), point(up), of(-(1 + 0x1p-51 + 0x1p-52), -(1 + 0x1p-51))}, {of(0, 0), of(-1, 1), of(0, 0)}, {of(0, 1), of(-1, 0), of(-1, 0)}, {point(-1), of(0, 1), of(-1, 0)},
	} {
		want(t, "Mul of "+toldSpan(c.a)+" and "+toldSpan(c.b), tell(span.Mul(c.a, c.b)), toldSpan(c.product))
		want(t, "Mul of "+toldSpan(c.b)+" and "+toldSpan(c.a), tell(span.Mul(c.b, c.a)), toldSpan(c.product))
	}
}

// 5.3, told in so many words: quotients, with nought inside, at the lower end, at the upper end, alone.
func TestQuotientsInWords(t *testing.T) {
	third, next := 0.3333333333333333, 0.33333333333333337
	for _, c := range []struct{ a, b, quotient api.Span }{
		{point(1), point(3), of(third, next)}, {point(-1), point(3), of(-next, -third)}, {of(1, 2), of(4, 8), of(0.125, 0.5)}, {of(-1, 2), of(4, 8), of(-0.25, 0.5)}, {of(-1, 2), of(-8, -4), of(-0.5, 0.25)}, {of(-2, -1), of(4, 8), of(-0.5, -0.125)}, {of(-2, -1), of(-8, -4), of(0.125, 0.5)},
		{of(1, 2), of(-4, 4), line}, {of(0, 1), of(-4, 4), line}, {of(-1, 0), of(-4, 4), line}, {line, of(-4, 4), line}, {point(least), of(-greatest, greatest), line}, {of(1, 2), line, line}, {of(0, 0), line, of(0, 0)}, {of(0, 0), of(-1, 2), of(0, 0)},
		{of(1, 2), of(0, 4), of(0.25, inf)}, {of(0, 2), of(0, 4), of(0, inf)}, {of(-2, -1), of(0, 4), of(-inf, -0.25)}, {of(-2, 0), of(0, 4), of(-inf, 0)}, {of(-1, 1), of(0, 4), line}, {of(0, 0), of(0, 4), of(0, 0)}, {of(0, 0), of(0, inf), of(0, 0)},
		{of(1, 2), of(-4, 0), of(-inf, -0.25)}, {of(0, 2), of(-4, 0), of(-inf, 0)}, {of(-2, -1), of(-4, 0), of(0.25, inf)}, {of(-2, 0), of(-4, 0), of(0, inf)}, {of(-1, 1), of(-4, 0), line}, {of(0, 0), of(-4, 0), of(0, 0)}, {of(0, 0), of(-inf, 0), of(0, 0)},
		{of(1, 2), of(4, inf), of(0, 0.5)}, {of(-2, -1), of(4, inf), of(-0.5, 0)}, {of(-1, 2), of(4, inf), of(-0.25, 0.5)}, {of(1, 2), of(-inf, -4), of(-0.5, 0)}, {of(1, 2), of(0, inf), of(0, inf)}, {of(1, 2), of(-inf, 0), of(-inf, 0)}, {of(1, inf), of(2, inf), of(0, inf)}, {of(-inf, -1), of(2, inf), of(-inf, 0)}, {of(-inf, -1), of(-inf, -2), of(0, inf)}, {line, of(1, inf), line}, {line, of(1, 2), line}, {of(1, inf), of(2, 4), of(0.25, inf)},
		{point(greatest), point(0.5), of(greatest, inf)}, {point(least), point(2), of(0, least)}, {point(-least), point(2), of(-least, 0)}, {point(1), point(greatest), of(0x1p-1024, math.Nextafter(0x1p-1024, 1))}, {point(1), point(least), of(greatest, inf)},
	} {
		want(t, "Div of "+toldSpan(c.a)+" and "+toldSpan(c.b), tell(span.Div(c.a, c.b)), toldSpan(c.quotient))
	}
}

var powers = []int{0, 1, 2, 3, 4, 5, 7, 16, 31, 32, span.MaxPower - 1, span.MaxPower}

// noPowers are such as are out of their range.
var noPowers = []int{-1, -2, span.MaxPower + 1, span.MaxPower + 2, 1 << 32, math.MinInt, math.MaxInt}

// 5.3: Pow.
func TestPow(t *testing.T) {
	r := random(5)
	for _, a := range append(edgeSpans(), anySpans(r, 150)...) {
		for _, n := range powers {
			want(t, fmt.Sprint("Pow of ", toldSpan(a), ", ", n), tell(span.Pow(a, n)), toldSpan(boundsOf(a).to(n).span()))
		}
		for _, n := range noPowers {
			want(t, fmt.Sprint("Pow of ", toldSpan(a), ", ", n), tell(span.Pow(a, n)), api.ErrRange.Error())
		}
	}
	for range 300 { // near 1, where powers stay in reach
		x := 1 + (r.Float64()-0.5)/4
		a := of(min(x, 1.01), max(x, 1.01))
		if r.Intn(2) == 0 {
			a = of(-a.Hi, -a.Lo)
		}
		n := r.Intn(span.MaxPower + 1)
		want(t, fmt.Sprint("Pow of ", toldSpan(a), ", ", n), tell(span.Pow(a, n)), toldSpan(boundsOf(a).to(n).span()))
	}
}

// 5.3, told in so many words: powers.
func TestPowersInWords(t *testing.T) {
	for _, c := range []struct {
		a      api.Span
		n      int
		wanted api.Span
	}{
		{of(0, 0), 0, point(1)}, {line, 0, point(1)}, {of(-2, 3), 0, point(1)}, {line, 1, line}, {of(-2, 3), 1, of(-2, 3)}, {of(0, 0), 1, of(0, 0)}, {of(0, 0), 2, of(0, 0)}, {of(0, 0), 64, of(0, 0)},
		{of(-2, 3), 2, of(0, 9)}, {of(-3, 2), 2, of(0, 9)}, {of(-3, -2), 2, of(4, 9)}, {of(2, 3), 2, of(4, 9)}, {of(-3, 0), 2, of(0, 9)}, {of(0, 3), 2, of(0, 9)}, {of(-3, 2), 3, of(-27, 8)}, {of(-3, -2), 3, of(-27, -8)}, {of(-3, 0), 3, of(-27, 0)},
		{line, 2, of(0, inf)}, {line, 3, line}, {of(-inf, 2), 2, of(0, inf)}, {of(-inf, -2), 2, of(4, inf)}, {of(-inf, -2), 3, of(-inf, -8)}, {of(2, inf), 63, of(0x1p63, inf)}, {of(2, inf), 64, of(0x1p64, inf)}, {of(-inf, 0), 5, of(-inf, 0)},
		{point(greatest), 2, of(greatest, inf)}, {point(-greatest), 2, of(greatest, inf)}, {point(-greatest), 3, of(-inf, -greatest)}, {point(greatest), 64, of(greatest, inf)}, {point(least), 2, of(0, least)}, {point(-least), 64, of(0, least)}, {point(-least), 63, of(-least, 0)}, {of(-least, least), 3, of(-least, least)}, {of(-least, greatest), 3, of(-least, inf)},
		{point(2), 64, point(0x1p64)}, {point(-2), 63, point(-0x1p63)}, {point(0x1p16), 64, of(greatest, inf)}, {point(0x1p-16), 64, point(0x1p-1024)}, {point(0x1p-17), 63, point(0x1p-1071)}, {point(0x1p-17), 64, of(0, least)}, {of(0.5, 2), 10, of(0x1p-10, 0x1p10)},
	} {
		want(t, fmt.Sprint("Pow of ", toldSpan(c.a), ", ", c.n), tell(span.Pow(c.a, c.n)), toldSpan(c.wanted))
	}
}

// 5.3: a power is rounded once, where products one behind the other are wider.
func TestPowIsRoundedOnce(t *testing.T) {
	a := point(0.1)
	products := a
	for range 9 {
		products = must(t)(span.Mul(products, a))
	}
	power := must(t)(span.Pow(a, 10))
	if math.Nextafter(power.Lo, inf) != power.Hi || !(products.Lo < power.Lo && power.Hi < products.Hi) {
		t.Errorf("Pow: %s, products: %s", toldSpan(power), toldSpan(products))
	}
}

// square is x times x, exactly; what is infinite lies beyond all.
func square(x float64) number { return numberOf(x).times(numberOf(x)) }

// 5.3: Root: told by squares.
func TestRoot(t *testing.T) {
	r := random(6)
	for _, a := range append(edgeSpans(), anySpans(r, 3000)...) {
		what := "Root of " + toldSpan(a)
		if a.Hi < 0 {
			want(t, what, tell(span.Root(a)), api.ErrRange.Error())
			continue
		}
		root := must(t)(span.Root(a))
		low, high := numberOf(max(a.Lo, 0)), numberOf(a.Hi)
		if root.Lo < 0 || square(root.Lo).cmp(low) > 0 || square(math.Nextafter(root.Lo, inf)).cmp(low) <= 0 {
			t.Errorf("%s: %s, the lower end", what, toldSpan(root))
		}
		if square(root.Hi).cmp(high) < 0 || root.Hi > 0 && square(math.Nextafter(root.Hi, 0)).cmp(high) >= 0 {
			t.Errorf("%s: %s, the upper end", what, toldSpan(root))
		}
	}
	for _, c := range [][2]api.Span{{of(4, 9), of(2, 3)}, {of(0, 0), of(0, 0)}, {of(-1, 0), of(0, 0)}, {of(-inf, 0), of(0, 0)}, {of(-inf, 9), of(0, 3)}, {of(-5, 9), of(0, 3)}, {line, of(0, inf)}, {of(4, inf), of(2, inf)}, {point(2), of(1.414213562373095, 1.4142135623730951)}, {point(least), point(0x1p-537)}, {point(greatest), of(math.Nextafter(0x1p512, 0), 0x1p512)}} {
		want(t, "Root of "+toldSpan(c[0]), tell(span.Root(c[0])), toldSpan(c[1]))
	}
	for _, a := range []api.Span{point(-least), of(-2, -1), of(-inf, -least), of(-inf, -greatest)} {
		want(t, "Root of "+toldSpan(a), tell(span.Root(a)), api.ErrRange.Error())
	}
}
