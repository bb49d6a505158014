package table_test

import (
	"fmt"
	"math"
	"math/big"
	"testing"

	"tontine/api"
	"tontine/ratio"
	"tontine/span"
	"tontine/table"
)

// radixes are floats that may be one: noughts, subnormal, normal, the greatest.
var radixes = []float64{0, math.Copysign(0, -1), 5e-324, 3e-320, 0x1p-1022, 0.1, 1, 100, 100000, 1e300, math.MaxFloat64}

// 9.5: Lives, bit by bit.
func TestLives(t *testing.T) {
	eachLife(func(what string, a api.Table, l api.Life) {
		for _, radix := range radixes {
			wanted := []float64{radix}
			for n := 0; rateIn(a, l, n) >= 0; n++ {
				p := float64(unit-rateIn(a, l, n)) / 10000000.0
				wanted = append(wanted, wanted[n]*p)
			}
			want(t, fmt.Sprint("Lives of ", what, ", ", radix), tellFloats(table.Lives(a, l, radix)), tellFloats(wanted, api.OK))
		}
	})
}

// 9.5: p is rounded ahead of the product, and the product is what was rounded in the year ahead: neither is the exact one, rounded once.
func TestLivesAreRounded(t *testing.T) {
	a := api.Table{Name: "t", Rates: []int{1234574, 3333333, 7777777, unit}}
	l, _ := table.Lives(a, api.Life{}, 0.1)
	once, _ := new(big.Rat).Mul(new(big.Rat).SetFloat64(0.1), survival(a, api.Life{})(3)).Float64()
	if l[3] == once {
		t.Error("this table does not tell the two apart")
	}
	p := []float64{8765426.0 / 10000000.0, 6666667.0 / 10000000.0, 2222223.0 / 10000000.0}
	wanted := []float64{0.1, 0.1 * p[0], 0.1 * p[0] * p[1], 0.1 * p[0] * p[1] * p[2], 0}
	want(t, "Lives", tellFloats(l, api.OK), tellFloats(wanted, api.OK))
}

// 9.5: a nought keeps its sign, and the last one is nought with the radix' sign (R8).
func TestLivesOfNought(t *testing.T) {
	minus := math.Copysign(0, -1)
	want(t, "Lives of -0", tellFloats(table.Lives(ages(), api.Life{Entry: 62}, minus)), tellFloats([]float64{minus, minus, minus}, api.OK))
	want(t, "Lives of 0", tellFloats(table.Lives(ages(), api.Life{Entry: 62}, 0)), tellFloats([]float64{0, 0, 0}, api.OK))
	want(t, "Lives of the least", tellFloats(table.Lives(ages(), api.Life{Entry: 61}, 5e-324)), tellFloats([]float64{5e-324, 5e-324, 0, 0}, api.OK))
}

// 9.5: radixes that are infinite, none, or below nought.
func TestNoRadix(t *testing.T) {
	l := api.Life{Entry: 60}
	for _, radix := range []float64{math.NaN(), math.Inf(1), math.Inf(-1)} {
		want(t, fmt.Sprint("Lives of ", radix), tellFloats(table.Lives(ages(), l, radix)), refused(api.ErrNotFinite))
	}
	for _, radix := range []float64{-5e-324, -1, -100, -math.MaxFloat64} {
		want(t, fmt.Sprint("Lives of ", radix), tellFloats(table.Lives(ages(), l, radix)), refused(api.ErrRange))
	}
}

// 9.5: Spans, bit by bit; 9.10: they have S(n).
func TestSpans(t *testing.T) {
	eachLife(func(what string, a api.Table, l api.Life) {
		wanted := []api.Span{{Lo: 1, Hi: 1}}
		for n := 0; rateIn(a, l, n) >= 0; n++ {
			p, _ := ratio.Of(unit-rateIn(a, l, n), unit)
			year, _ := span.Of(p, p)
			next, e := span.Mul(wanted[n], year)
			if e != api.OK {
				t.Fatal(e)
			}
			wanted = append(wanted, next)
		}
		got, e := table.Spans(a, l)
		want(t, "Spans of "+what, tellSpans(got, e), tellSpans(wanted, api.OK))
		for n, s := range got {
			r, _ := table.Survive(a, l, min(n, longest))
			if in, e := span.Has(s, r); n <= longest && (!in || e != api.OK) {
				t.Errorf("%s: %v has not S(%d)", what, s, n)
			}
		}
	})
}

// 9.5: spans are of the exact p, rounded outwards, and end with nought alone.
func TestSpansOfTheExample(t *testing.T) {
	down, up := math.Nextafter(0.9, 0), 0.9 // the float 0.9 is above nine tenths
	got, e := table.Spans(ages(), api.Life{Entry: 60})
	if e != api.OK || len(got) != 5 {
		t.Fatal(got, e)
	}
	want(t, "Spans", tellSpans(got[:2], e), tellSpans([]api.Span{{Lo: 1, Hi: 1}, {Lo: down, Hi: up}}, api.OK))
	want(t, "Spans at the end", tellSpans(got[4:], e), tellSpans([]api.Span{{}}, api.OK))
}

// 9.10: Lives of radix 1 lie within 3n units of the last place of S(n), for n below 100.
func TestLivesAreNear(t *testing.T) {
	place := new(big.Rat).SetFloat64(0x1p-53)
	eachLife(func(what string, a api.Table, l api.Life) {
		chance := survival(a, l)
		alive, _ := table.Lives(a, l, 1)
		for n, x := range alive[:min(len(alive), 100)] {
			away := minus(new(big.Rat).SetFloat64(x), chance(n))
			if away.Abs(away).Cmp(times(whole(3*n), place)) > 0 {
				t.Errorf("%s: %v is too far from S(%d)", what, x, n)
			}
		}
	})
}
