package sum_test

import (
	"testing"

	"tontine/api"
	"tontine/sum"
)

// The chapter's Examples 1 to 4.

func TestExample1(t *testing.T) {
	l := []float64{1, 0x1p-60, -1}
	a := put(t, sum.New(), ofFloats(l...)...)
	if a.Count() != 3 {
		t.Errorf("Count: %d", a.Count())
	}
	want(t, "Value", tellRatio(a.Value()), "1/1152921504606846976")
	want(t, "Round", tell(a.Round(api.RoundHalfEven)), told(0x1p-60))
	want(t, "Text", a.Text(), "3 ---ab 1 1152921504606846976")
	want(t, "Ordered", tell(sum.Ordered(l)), told(0))
	want(t, "Kept", tellTwo(sum.Kept(l)), tellTwo(0x1p-60, 0x1p-60, api.OK))
}

func TestExample2(t *testing.T) {
	want(t, "no term", sum.New().Text(), "0 ----- 0 1")
	a := put(t, sum.New(), ofFloats(minus)...)
	want(t, "-0", a.Text(), "1 ----b 0 1")
	for _, way := range ways {
		want(t, "-0, rounded", tell(a.Round(way)), told(minus))
	}
	a = put(t, a, ofFloats(0)...)
	want(t, "-0 and +0", a.Text(), "2 ---ab 0 1")
	for _, way := range ways {
		wanted := 0.0
		if way == api.RoundFloor {
			wanted = minus
		}
		want(t, "-0 and +0, rounded", tell(a.Round(way)), told(wanted))
	}
	a = put(t, sum.New(), ofFloats(inf, -inf)...)
	want(t, "infinite ones", a.Text(), "2 -pmab 0 1")
	for _, way := range ways {
		want(t, "infinite ones, rounded", tell(a.Round(way)), "none")
	}
	want(t, "0 times infinite", put(t, sum.New(), product(0, inf)).Text(), "1 n--ab 0 1")
	a = put(t, sum.New(), product(0x1p1023, 2), part{x: -0x1p1023}, part{x: -0x1p1023})
	want(t, "2^1024 less itself", tellRatio(a.Value()), "0/1")
}

func TestExample3(t *testing.T) {
	a := mustRead(t, "1 ---ab 3 2")
	want(t, "Value", tellRatio(a.Value()), "3/2")
	if a.Count() != 1 {
		t.Errorf("Count: %d", a.Count())
	}
	for s, at := range map[string]int{"1 ---ab 2 2": 3, "0 ---a- 0 1": 5, "1 ---ab 1 3": 3, "1  ---ab 1 2": 4, "01 ---ab 1 2": 0} {
		want(t, "Read of "+s, tellRead(sum.Read(s)), fault(at, api.ErrForm))
	}
}

func TestExample4(t *testing.T) {
	want(t, "Bound", tellRatio(sum.Bound([]float64{1, 1}, 1)), "2/9007199254740991")
	want(t, "Dot", tell(sum.Dot([]float64{0x1p600}, []float64{0x1p600}, api.RoundHalfEven)), told(inf))
	for _, way := range ways[1:] {
		want(t, "Dot", tell(sum.Dot([]float64{0x1p600, 0x1p600}, []float64{0x1p600, -0x1p600}, way)), told(0))
	}
}
