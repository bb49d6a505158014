package float_test

import (
	"fmt"
	"math"
	"testing"

	"tontine/api"
	"tontine/float"
)

// lossPairs are pairs whose sums and products lose something, or nothing.
func lossPairs() [][2]float64 {
	var l [][2]float64
	all := append(edges(), none)
	for _, x := range all {
		for _, y := range all {
			l = append(l, [2]float64{x, y})
		}
	}
	r := random(30)
	for range 20000 {
		x, y := anyFloat(r), anyFloat(r)
		e := r.Intn(1000)
		l = append(l, [2]float64{x, y}, [2]float64{x, float.Up(-x)}, [2]float64{x, x}, [2]float64{x, math.Ldexp(x, -r.Intn(60))})
		l = append(l, [2]float64{math.Ldexp(1+r.Float64(), e-1074-r.Intn(60)), math.Ldexp(1+r.Float64(), -e)})
		l = append(l, [2]float64{math.Ldexp(1+r.Float64(), 1023), -math.Ldexp(1+r.Float64(), 1023-r.Intn(60))})
		l = append(l, [2]float64{greatest, math.Ldexp(r.Float64(), 970)})
	}
	return l
}

// 2.6, 2.10: a sum, and what it lost.
func TestTwoSum(t *testing.T) {
	for _, p := range lossPairs() {
		x, y := p[0], p[1]
		what := fmt.Sprint("TwoSum ", told(x), " ", told(y))
		s, e := float.TwoSum(x, y)
		want(t, what, told(s), told(x+y))
		if !finite(s) {
			want(t, what+" lost", told(e), told(0))
			continue
		}
		if e == 0 && math.Signbit(e) || !finite(e) {
			t.Errorf("%s lost %s", what, told(e))
			continue
		}
		if plus(number(s), number(e)).Cmp(plus(number(x), number(y))) != 0 {
			t.Errorf("%s: %s and %s", what, told(s), told(e))
		}
	}
}

type product struct {
	p    float64
	lost api.Ratio
	e    api.Errno
}

func twoProduct(x, y float64) product {
	p, lost, e := float.TwoProduct(x, y)
	return product{p, lost, e}
}

func tellProduct(p product) string {
	return tellFloat(p.p, p.e) + ", lost " + tellRatio(p.lost, p.e)
}

// 2.6: a product, and what it lost.
func TestTwoProduct(t *testing.T) {
	for i, p := range lossPairs() {
		x, y := p[0], p[1]
		if i > 20000 && i%5 != 0 {
			continue
		}
		wanted := product{p: x * y}
		switch {
		case !finite(x) || !finite(y):
			wanted = product{e: api.ErrNotFinite}
		case !finite(x * y):
			wanted = product{e: api.ErrRange}
		default:
			wanted.lost = fromBig(less(times(number(x), number(y)), number(x*y)))
		}
		want(t, fmt.Sprint("TwoProduct ", told(x), " ", told(y)), tellProduct(twoProduct(x, y)), tellProduct(wanted))
	}
}

// 2.6: what is infinite or none comes ahead of a product that is.
func TestTwoProductRefuses(t *testing.T) {
	for _, c := range []struct {
		x, y float64
		e    api.Errno
	}{
		{inf, 0, api.ErrNotFinite}, {0, -inf, api.ErrNotFinite}, {none, greatest, api.ErrNotFinite}, {greatest, none, api.ErrNotFinite}, {inf, greatest, api.ErrNotFinite},
		{greatest, 2, api.ErrRange}, {-greatest, greatest, api.ErrRange}, {math.Ldexp(1, 512), math.Ldexp(1, 512), api.ErrRange},
	} {
		want(t, fmt.Sprint("TwoProduct ", c.x, " ", c.y), tellProduct(twoProduct(c.x, c.y)), tellProduct(product{e: c.e}))
	}
	want(t, "noughts", tellProduct(twoProduct(minus, 3)), tellProduct(product{p: minus, lost: of("0")}))
	want(t, "L times L", tellProduct(twoProduct(least, -least)), tellProduct(product{p: minus, lost: fromBig(turned(two(-2148)))}))
}
