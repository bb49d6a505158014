package smooth_test

import (
	"fmt"
	"math"
	"math/rand"
	"testing"

	"tontine/api"
	"tontine/float"
	"tontine/smooth"
)

// reckoner is the operations of the recursion, rounded half to even.
type reckoner struct {
	minus, times, by func(x, y float64) float64
}

// byHand rounds the exact numbers, by layer 2.
func byHand() reckoner {
	return reckoner{
		func(x, y float64) float64 { z, _, _ := float.Add(x, -y, api.RoundHalfEven); return z },
		func(x, y float64) float64 { z, _, _ := float.Mul(x, y, api.RoundHalfEven); return z },
		func(x, y float64) float64 { z, _, _ := float.Div(x, y, api.RoundHalfEven); return z },
	}
}

// byGo lets the machine round; the conversions keep it from rounding a product and a difference at once.
func byGo() reckoner {
	return reckoner{
		func(x, y float64) float64 { return float64(x - y) },
		func(x, y float64) float64 { return float64(x * y) },
		func(x, y float64) float64 { return float64(x / y) },
	}
}

// graduated is the recursion of 10.3, word by word; false, if a divisor is not above nought.
func (o reckoner) graduated(seen []float64, weights []int, z, smooth int) ([]float64, bool) {
	n := len(seen)
	square := func() [][]float64 {
		m := make([][]float64, n)
		for i := range m {
			m[i] = make([]float64, n)
		}
		return m
	}
	A := func(i, j int) float64 { return float64(entry(weights, z, smooth, i, j)) }
	L, D, Y, g := square(), make([]float64, n), make([]float64, n), make([]float64, n)
	for i := 0; i <= n-1; i++ {
		V := make([]float64, n)
		for j := max(0, i-z); j <= i-1; j++ {
			V[j] = A(i, j)
			for k := max(0, i-z); k <= j-1; k++ {
				V[j] = o.minus(V[j], o.times(V[k], L[j][k]))
			}
			L[i][j] = o.by(V[j], D[j])
		}
		D[i] = A(i, i)
		for k := max(0, i-z); k <= i-1; k++ {
			D[i] = o.minus(D[i], o.times(V[k], L[i][k]))
		}
		if !(D[i] > 0) {
			return nil, false
		}
		Y[i] = o.times(float64(weights[i]), seen[i])
		for k := max(0, i-z); k <= i-1; k++ {
			Y[i] = o.minus(Y[i], o.times(L[i][k], Y[k]))
		}
	}
	for i := n - 1; i >= 0; i-- {
		g[i] = o.by(Y[i], D[i])
		for k := i + 1; k <= min(i+z, n-1); k++ {
			g[i] = o.minus(g[i], o.times(L[k][i], g[k]))
		}
	}
	return g, true
}

// wantFloats wants what the recursion comes to, bit by bit, and the errors that the Words tell.
func wantFloats(t *testing.T, o reckoner, seen []float64, weights []int, order, h int) {
	t.Helper()
	wanted := refused(api.ErrSingular)
	if !isSingular(weights, order, h) {
		if g, ok := o.graduated(seen, weights, order, h); ok {
			wanted = tellFloats(g, api.OK)
		}
	}
	want(t, fmt.Sprint("Floats ", seen, weights, order, " ", h), tellFloats(smooth.Floats(seen, weights, order, h)), wanted)
}

// oddFloats are ends of the range of floats, subnormal ones and noughts among them.
var oddFloats = []float64{0, math.Copysign(0, -1), 5e-324, -5e-324, 0x1p-1022, 0x1.fffffffffffffp-1023, math.MaxFloat64, -math.MaxFloat64, 1e300, -1e300, 1e-310, 1, -1, 0.1, 1.0 / 3}

// anyFloat is often an odd one, if odd.
func anyFloat(r *rand.Rand, odd bool) float64 {
	if odd && r.Intn(2) == 0 {
		return oddFloats[r.Intn(len(oddFloats))]
	}
	x := math.Ldexp(r.Float64(), r.Intn(12))
	if r.Intn(3) == 0 {
		return -x
	}
	return x
}

func anyFloats(r *rand.Rand, count int, odd bool) []float64 {
	l := make([]float64, count)
	for i := range l {
		l[i] = anyFloat(r, odd)
	}
	return l
}

var smooths = []int{0, 1, 3, 1000, 123456789, heaviest}

// 10.3, R8: the recursion, each operation rounded from its exact number.
func TestFloats(t *testing.T) {
	r := random(104)
	for i := range 150 {
		n := i % 11
		weights := anyWeights(r, n)
		if r.Intn(3) > 0 {
			for k := range weights {
				weights[k] = max(weights[k], 1)
			}
		}
		wantFloats(t, byHand(), anyFloats(r, n, i%3 == 0), weights, 1+r.Intn(api.MaxOrder), smooths[r.Intn(len(smooths))])
	}
}

// 10.3, R8: up to MaxPoints floats, of all orders.
func TestFloatsMany(t *testing.T) {
	r := random(105)
	for order := 1; order <= api.MaxOrder; order++ {
		for _, n := range []int{points, points - 1, 60, order + 2, order + 1, order, order - 1, 1, 0} {
			for _, h := range smooths {
				for _, odd := range []bool{false, true} {
					wantFloats(t, byGo(), anyFloats(r, n, odd), anyWeights(r, n), order, h)
					weights := anyWeights(r, n)
					for k := range weights {
						weights[k] = max(weights[k], 1)
					}
					wantFloats(t, byGo(), anyFloats(r, n, odd), weights, order, h)
				}
			}
		}
	}
}

// 10.3: floats near to the exact graduation, where nothing is lost on the way.
func TestFloatsAreNear(t *testing.T) {
	r := random(106)
	for order := 1; order <= api.MaxOrder; order++ {
		for range 20 {
			n := 5 + r.Intn(20)
			seen, numbers, weights := make([]float64, n), make([]api.Ratio, n), make([]int, n)
			for i := range n {
				seen[i] = r.Float64()
				numbers[i], _ = float.Exact(seen[i])
				weights[i] = 1 + r.Intn(100)
			}
			h := 1 + r.Intn(50)
			got, e := smooth.Floats(seen, weights, order, h)
			exactly, e2 := smooth.Graduate(numbers, weights, order, h)
			if e != api.OK || e2 != api.OK {
				t.Fatal(e, e2)
			}
			for i := range n {
				if x, _ := toBig(exactly[i]).Float64(); math.Abs(x-got[i]) > 1e-9 {
					t.Errorf("order %d, %d: %v in floats, %v", order, i, got[i], x)
				}
			}
		}
	}
}

// 10.3: -0, subnormal floats, and such that become infinite or none on the way are answered as they come.
func TestFloatsAtEdges(t *testing.T) {
	minusNought, most := math.Copysign(0, -1), math.MaxFloat64
	for _, c := range []struct {
		seen    []float64
		weights []int
		order   int
		h       int
		wanted  []float64
	}{
		{nil, nil, 1, 0, nil}, {[]float64{}, ints(), 4, heaviest, nil},
		{[]float64{5}, ints(3), 1, 0, []float64{5}}, {[]float64{minusNought}, ints(3), 1, 9, []float64{minusNought}}, {[]float64{0}, ints(3), 4, 9, []float64{0}}, {[]float64{5e-324}, ints(heaviest), 2, 1, []float64{5e-324}},
		{[]float64{5, 5, 5}, ints(1, 1, 1), 1, 0, []float64{5, 5, 5}},
		{[]float64{minusNought, minusNought}, ints(1, 1), 1, 0, []float64{minusNought, 0}}, // Y(1) is -0 less +0 times -0
		{[]float64{most}, ints(heaviest), 1, 1, []float64{math.Inf(1)}}, {[]float64{-most}, ints(2), 1, 1, []float64{math.Inf(-1)}}, {[]float64{most}, ints(1), 1, 1, []float64{most}},
		{[]float64{most, 1}, ints(2, 1), 1, 0, []float64{math.NaN(), math.NaN()}}, // 0 times an infinite one is none
		{[]float64{0, 7, 2}, ints(1, 0, 1), 2, 1, []float64{0, 1, 2}},
	} {
		g, ok := byHand().graduated(c.seen, c.weights, c.order, c.h)
		what := fmt.Sprint("Floats ", c.seen, c.weights, c.order, " ", c.h)
		if !ok {
			t.Fatal(what)
		}
		want(t, what, tellFloats(smooth.Floats(c.seen, c.weights, c.order, c.h)), tellFloats(g, api.OK))
		want(t, what, tellFloats(g, api.OK), tellFloats(c.wanted, api.OK))
	}
}

// 10.3: a divisor that is not above nought, though there is just one graduation.
func TestFloatsOfNoDivisor(t *testing.T) {
	weights, h := append(ints(2, 1, 3, 3), repeated(0, 11)...), 999999711
	for n := 5; n <= len(weights); n++ {
		wantFloats(t, byHand(), repeated(1.5, n), weights[:n], 4, h)
	}
	want(t, "Floats", tellFloats(smooth.Floats(repeated(1.5, 15), weights, 4, h)), refused(api.ErrSingular))
	want(t, "Graduate", tellList(smooth.Graduate(repeated(of("3/2"), 15), weights, 4, h)), tellList(repeated(of("3/2"), 15), api.OK))
	r, refusals := random(107), 0
	for range 3000 {
		n := 15 + r.Intn(30)
		weights := repeated(0, n)
		for range 5 {
			weights[r.Intn(n/2)] = 1 + r.Intn(3)
		}
		wantFloats(t, byGo(), anyFloats(r, n, false), weights, 4, heaviest-r.Intn(1000))
		if _, e := smooth.Floats(repeated(0.0, n), weights, 4, heaviest); e == api.ErrSingular && !isSingular(weights, 4, heaviest) {
			refusals++
		}
	}
	if refusals < 5 {
		t.Error("only", refusals, "were refused by a divisor")
	}
}

// 10.3: floats that are infinite or none, behind too many of them, ahead of all that is wrong with weights, orders and smoothness.
func TestFloatsNotFinite(t *testing.T) {
	for _, x := range []float64{math.Inf(1), math.Inf(-1), math.NaN(), math.Float64frombits(0xfff0000000000001)} {
		for _, at := range []int{0, 1, points - 1} {
			l := with(repeated(1.0, points), at, x)
			for _, weights := range [][]int{repeated(1, points), repeated(0, points), repeated(1, points+1), nil, repeated(-1, points)} {
				want(t, fmt.Sprint("Floats with ", x), tellFloats(smooth.Floats(l, weights, 2, 1)), refused(api.ErrNotFinite))
				want(t, fmt.Sprint("Floats with ", x), tellFloats(smooth.Floats(l, weights, 0, -1)), refused(api.ErrNotFinite))
				want(t, "Floats of too many", tellFloats(smooth.Floats(append(l, x), weights, 0, -1)), refused(api.ErrLong))
			}
		}
	}
}
