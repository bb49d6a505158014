package column_test

import (
	"fmt"
	"math"
	"math/big"
	"testing"

	"tontine/api"
	"tontine/column"
)

// inFloats is the chapter's table in floats, of columns of the radix 1.
func inFloats(six map[string][]float64, f api.Benefit) float64 {
	at := func(name string, n int) float64 {
		if n < len(six[name]) {
			return six[name][n]
		}
		return 0
	}
	w, t, e := f.Wait, float64(f.Term), f.Wait+f.Term
	switch f.Kind {
	case api.BDue:
		return (at("N", w) - at("N", e)) / at("D", 0)
	case api.BLate:
		return (at("N", w+1) - at("N", e+1)) / at("D", 0)
	case api.BAssure:
		return (at("M", w) - at("M", e)) / at("D", 0)
	case api.BEndow:
		return at("D", e) / at("D", 0)
	case api.BBoth:
		return ((at("M", w) - at("M", e)) + at("D", e)) / at("D", 0)
	case api.BRising:
		return ((at("R", w) - at("R", e)) - float64(t*at("M", e))) / at("D", 0)
	}
	return (float64(t*at("M", w)) - (at("R", w+1) - at("R", e+1))) / at("D", 0)
}

// inSpans is likewise in spans.
func inSpans(o operations, six map[string][]api.Span, f api.Benefit) api.Span {
	at := func(name string, n int) api.Span {
		if n < len(six[name]) {
			return six[name][n]
		}
		return api.Span{}
	}
	less := func(name string, from, to int) api.Span { return o.sub(at(name, from), at(name, to)) }
	w, t, e := f.Wait, api.Span{Lo: float64(f.Term), Hi: float64(f.Term)}, f.Wait+f.Term
	var s api.Span
	switch f.Kind {
	case api.BDue:
		s = less("N", w, e)
	case api.BLate:
		s = less("N", w+1, e+1)
	case api.BAssure:
		s = less("M", w, e)
	case api.BEndow:
		s = at("D", e)
	case api.BBoth:
		s = o.add(less("M", w, e), at("D", e))
	case api.BRising:
		s = o.sub(less("R", w, e), o.mul(t, at("M", e)))
	case api.BFalling:
		s = o.sub(o.mul(t, at("M", w)), less("R", w+1, e+1))
	}
	return o.div(s, at("D", 0))
}

// exactly is likewise of the exact columns.
func exactly(six map[string][]*big.Rat, f api.Benefit) *big.Rat {
	less := func(name string, from, to int) *big.Rat { return minus(atLine(six[name], from), atLine(six[name], to)) }
	w, t, e := f.Wait, whole(f.Term), f.Wait+f.Term
	switch f.Kind {
	case api.BDue:
		return less("N", w, e)
	case api.BLate:
		return less("N", w+1, e+1)
	case api.BAssure:
		return less("M", w, e)
	case api.BEndow:
		return atLine(six["D"], e)
	case api.BBoth:
		return plus(less("M", w, e), atLine(six["D"], e))
	case api.BRising:
		return minus(less("R", w, e), times(t, atLine(six["M"], e)))
	}
	return minus(times(t, atLine(six["M"], w)), less("R", w+1, e+1))
}

// checkValues holds Value and Within of a benefit against the chapter's table, bit by bit (12.2), and wants what it is worth exactly, and Value, to be in Within (12.4).
func checkValues(t *testing.T, what string, b api.Basis, l api.Life, floats map[string][]float64, spans map[string][]api.Span, f api.Benefit) api.Span {
	t.Helper()
	what = fmt.Sprint(f, " of ", what)
	x, e := column.Value(b, l, f)
	want(t, "Value of "+what, tellFloat(x, e), tellFloat(inFloats(floats, f), api.OK))
	s, e := column.Within(b, l, f)
	want(t, "Within of "+what, tellSpan(s, e), tellSpan(inSpans(operations{t}, spans, f), api.OK))
	if x < s.Lo || x > s.Hi {
		t.Errorf("%s: %v is not in %v", what, x, s)
	}
	return s
}

// 12.2, 12.4: each kind, with Wait and Term at their ends and about m. What it is worth exactly is told by chapter 13's payments.
func TestValues(t *testing.T) {
	eachLife(func(what string, b api.Basis, l api.Life) {
		floats, spans := floatColumns(t, b, l, 1), spanColumns(t, b, l)
		for _, kind := range kinds {
			for _, f := range benefitsFor(kind, len(floats["D"])-1) {
				s := checkValues(t, what, b, l, floats, spans, f)
				if exact := exactWorth(b, l, f); !isIn(exact, s) {
					t.Errorf("%v of %s: %v has not %s", f, what, s, short(exact.String()))
				}
			}
		}
	})
}

// 12.2, 12.4: likewise of long tables, some benefits each; what the exact columns make of them is told, which 12.4 says to be the same.
func TestValuesOfLongTables(t *testing.T) {
	r := random(124)
	eachLong(func(what string, b api.Basis, l api.Life) {
		floats, spans, exact := floatColumns(t, b, l, 1), spanColumns(t, b, l), exactColumns(b, l)
		for _, kind := range kinds {
			all := benefitsFor(kind, len(floats["D"])-1)
			for range 3 {
				f := all[r.Intn(len(all))]
				s := checkValues(t, what, b, l, floats, spans, f)
				if !isIn(exactly(exact, f), s) {
					t.Errorf("%v of %s: %v has not the exact worth", f, what, s)
				}
			}
			f := api.Benefit{Kind: kind, Wait: r.Intn(longest + 1), Term: 1 + r.Intn(longest)}
			checkValues(t, what, b, l, floats, spans, f)
		}
	})
}

// 12.4: by the exact columns the table's lines are what chapter 13's payments are worth.
func TestColumnsAreWorth(t *testing.T) {
	for i, a := range tables() {
		for _, l := range livesOf(a) {
			b := api.Basis{Table: a, Rate: interests[i%len(interests)]}
			exact := exactColumns(b, l)
			for _, kind := range kinds {
				for _, f := range benefitsFor(kind, len(exact["D"])-1) {
					want(t, fmt.Sprint(f, " of ", l), exactly(exact, f).String(), exactWorth(b, l, f).String())
				}
			}
		}
	}
}

// 12.2: each kind of the examples' life at no interest, of whom 0.1, 0.18, 0.36 and 0.36 die, a year each.
func TestKinds(t *testing.T) {
	b, l := sample()
	b.Rate = 0
	for kind, wanted := range map[int]string{api.BAssure: "27/50", api.BEndow: "9/25", api.BBoth: "9/10", api.BDue: "81/50", api.BLate: "27/25", api.BRising: "9/10", api.BFalling: "18/25"} {
		f := api.Benefit{Kind: kind, Wait: 1, Term: 2}
		exact := exactWorth(b, l, f)
		want(t, fmt.Sprint("kind ", kind), exact.String(), wanted)
		x, e := column.Value(b, l, f)
		if near, _ := exact.Float64(); e != api.OK || math.Abs(x-near) > 1e-15 {
			t.Errorf("kind %d: %v, not %s", kind, x, wanted)
		}
		s, e := column.Within(b, l, f)
		if e != api.OK || !isIn(exact, s) || s.Hi-s.Lo > 1e-14 {
			t.Errorf("kind %d: %v, not %s", kind, s, wanted)
		}
	}
}

// 12.2, R8: what is worth nothing is +0, or in spans has nought.
func TestWorthNothing(t *testing.T) {
	b, l := sample()
	for _, kind := range kinds {
		for _, wait := range []int{4, 5, longest} {
			for _, term := range []int{1, longest} {
				f := api.Benefit{Kind: kind, Wait: wait, Term: term}
				want(t, fmt.Sprint("Value of ", f), tellFloat(column.Value(b, l, f)), bits(0))
				want(t, fmt.Sprint("Within of ", f), tellSpan(column.Within(b, l, f)), tellSpan(api.Span{}, api.OK))
			}
		}
	}
}

// 12.2: benefits that may be here, at the ends of their ranges, and those that may not.
func TestBenefits(t *testing.T) {
	b, l := sample()
	for _, kind := range kinds {
		for _, f := range []api.Benefit{{Kind: kind, Term: 1}, {Kind: kind, Wait: longest, Term: 1}, {Kind: kind, Term: longest}, {Kind: kind, Wait: longest, Term: longest}} {
			if _, e := column.Value(b, l, f); e != api.OK {
				t.Error("Value", f, e)
			}
			if _, e := column.Within(b, l, f); e != api.OK {
				t.Error("Within", f, e)
			}
		}
	}
	for _, f := range noBenefits() {
		want(t, fmt.Sprint("Value of ", f), tellFloat(column.Value(b, l, f)), refused(api.ErrBenefit))
		want(t, fmt.Sprint("Within of ", f), tellSpan(column.Within(b, l, f)), refused(api.ErrBenefit))
		want(t, fmt.Sprint("Value of no life, ", f), tellFloat(column.Value(b, api.Life{Entry: 59}, f)), refused(api.ErrAge))
		want(t, fmt.Sprint("Within of no life, ", f), tellSpan(column.Within(b, api.Life{Entry: 59}, f)), refused(api.ErrAge))
	}
}
