package reckon

import (
	"math"
	"math/big"
	"math/rand"
	"testing"

	"tontine/api"
	"tontine/exact"
	"tontine/ratio"
	"tontine/span"
)

// quotients are pairs of whole numbers, the second one above 0.
func quotients() [][2]int {
	l := [][2]int{{0, 1}, {0, 7}, {1, 1}, {-1, 1}, {6, 4}, {-6, 4}, {api.Unit, api.Unit + 250000}, {1, api.Unit}, {130, 1}, {1 << 60, 3}}
	r := rand.New(rand.NewSource(1))
	for range 20 {
		l = append(l, [2]int{r.Intn(2*api.Unit) - api.Unit, 1 + r.Intn(api.Unit)})
	}
	return l
}

// eachPair goes over pairs of numbers of one kind, made of quotients.
func eachPair[T any](n Numbers[T], do func(x, y T)) {
	for _, a := range quotients() {
		for _, b := range quotients() {
			do(n.Of(a[0], a[1]), n.Of(b[0], b[1]))
		}
	}
}

func rat(t *testing.T, f exact.Fraction) *big.Rat {
	t.Helper()
	r, e := f.Ratio()
	x, ok := new(big.Rat).SetString(r.Num + "/" + r.Den)
	if e != api.OK || !ok || ratio.Check(r) != api.OK {
		t.Fatal("no exact number:", r, e)
	}
	return x
}

// Exact numbers are not rounded, and stay in lowest terms.
func TestExacts(t *testing.T) {
	n := Exacts()
	for _, a := range quotients() {
		if got, wanted := rat(t, n.Of(a[0], a[1])), big.NewRat(int64(a[0]), int64(a[1])); got.Cmp(wanted) != 0 {
			t.Errorf("%v is %v", a, got)
		}
	}
	eachPair(n, func(x, y exact.Fraction) {
		p, q := rat(t, x), rat(t, y)
		for what, c := range map[string][2]*big.Rat{
			"plus":  {rat(t, n.Plus(x, y)), new(big.Rat).Add(p, q)},
			"minus": {rat(t, n.Minus(x, y)), new(big.Rat).Sub(p, q)},
			"times": {rat(t, n.Times(x, y)), new(big.Rat).Mul(p, q)},
		} {
			if c[0].Cmp(c[1]) != 0 {
				t.Errorf("%v %s %v is %v", p, what, q, c[0])
			}
		}
		if q.Sign() != 0 && rat(t, n.By(x, y)).Cmp(new(big.Rat).Quo(p, q)) != 0 {
			t.Errorf("%v by %v is %v", p, q, rat(t, n.By(x, y)))
		}
	})
}

func TestFloats(t *testing.T) {
	n := Floats()
	same := func(what string, x, y float64) {
		t.Helper()
		if math.Float64bits(x) != math.Float64bits(y) {
			t.Errorf("%s: %v, want %v", what, x, y)
		}
	}
	same("1 by 3", n.Of(1, 3), 1.0/3)
	same("0 by 7", n.Of(0, 7), 0)
	eachPair(n, func(x, y float64) {
		same("plus", n.Plus(x, y), x+y)
		same("minus", n.Minus(x, y), x-y)
		same("times", n.Times(x, y), x*y)
		if y != 0 {
			same("by", n.By(x, y), x/y)
		}
	})
	x := 1 + 0x1p-30 // its square is 1 + 2^-29 + 2^-60
	same("a product is rounded", n.Minus(n.Times(x, x), 1+0x1p-29), 0)
	same("the zero value", n.Of(0, 1), *new(float64))
}

func TestSpans(t *testing.T) {
	n := Spans()
	same := func(what string, got, wanted api.Span, e api.Errno) {
		t.Helper()
		if got != wanted || e != api.OK || span.Check(got) != api.OK {
			t.Errorf("%s: %v, want %v, %v", what, got, wanted, e)
		}
	}
	same("1 by 3", n.Of(1, 3), api.Span{Lo: 0.3333333333333333, Hi: 0.33333333333333337}, api.OK)
	same("the zero value", n.Of(0, 1), api.Span{}, api.OK)
	same("130", n.Of(130, 1), api.Span{Lo: 130, Hi: 130}, api.OK)
	eachPair(n, func(x, y api.Span) {
		s, e := span.Add(x, y)
		same("plus", n.Plus(x, y), s, e)
		s, e = span.Sub(x, y)
		same("minus", n.Minus(x, y), s, e)
		s, e = span.Mul(x, y)
		same("times", n.Times(x, y), s, e)
		if s, e = span.Div(x, y); e != api.ErrZero {
			same("by", n.By(x, y), s, e)
		}
	})
}
