package span_test

import (
	"fmt"
	"math"
	"strings"
	"testing"

	"tontine/api"
	"tontine/span"
)

// 5.1: which spans are right.
func TestCheck(t *testing.T) {
	for _, a := range edgeSpans() {
		want(t, "Check of "+toldSpan(a), fmt.Sprint(span.Check(a)), fmt.Sprint(api.OK))
	}
	for _, a := range wrongSpans() {
		want(t, "Check of "+toldSpan(a), fmt.Sprint(span.Check(a)), fmt.Sprint(api.ErrShape))
	}
}

// of one span, of two.
func oneCalls() map[string]func(a api.Span) string {
	third := api.Ratio{Num: "1", Den: "3"}
	return map[string]func(a api.Span) string{
		"Neg":         func(a api.Span) string { return tell(span.Neg(a)) },
		"Pow":         func(a api.Span) string { return tell(span.Pow(a, 2)) },
		"Pow to none": func(a api.Span) string { return tell(span.Pow(a, -1)) },
		"Root":        func(a api.Span) string { return tell(span.Root(a)) },
		"Has":         func(a api.Span) string { return tellBool(span.Has(a, third)) },
		"Has of no number": func(a api.Span) string {
			return tellBool(span.Has(a, api.Ratio{Num: strings.Repeat("9", 5000), Den: "1"}))
		},
		"Width":  func(a api.Span) string { return tellRatio(span.Width(a)) },
		"Middle": func(a api.Span) string { return tellFloat(span.Middle(a)) },
		"Text":   func(a api.Span) string { return tellText(span.Text(a)) },
		"Sum":    func(a api.Span) string { return tell(span.Sum([]api.Span{a})) },
		"Horner": func(a api.Span) string { return tell(span.Horner(nil, a)) },
	}
}

func twoCalls() map[string]func(a, b api.Span) string {
	return map[string]func(a, b api.Span) string{
		"Add":    func(a, b api.Span) string { return tell(span.Add(a, b)) },
		"Sub":    func(a, b api.Span) string { return tell(span.Sub(a, b)) },
		"Mul":    func(a, b api.Span) string { return tell(span.Mul(a, b)) },
		"Div":    func(a, b api.Span) string { return tell(span.Div(a, b)) },
		"Hull":   func(a, b api.Span) string { return tell(span.Hull(a, b)) },
		"Meet":   func(a, b api.Span) string { return tell(span.Meet(a, b)) },
		"Within": func(a, b api.Span) string { return tellBool(span.Within(a, b)) },
		"Cmp":    func(a, b api.Span) string { return tellInt(span.Cmp(a, b)) },
		"Sum":    func(a, b api.Span) string { return tell(span.Sum([]api.Span{a, {}, b})) },
		"Dot":    func(a, b api.Span) string { return tell(span.Dot([]api.Span{{}, a}, []api.Span{b, {}})) },
		"Horner": func(a, b api.Span) string { return tell(span.Horner([]api.Span{{}, a, {}}, b)) },
	}
}

// 5.1: each call that is given spans: ErrShape, if one is not right, ahead of all else.
func TestSpansNotRight(t *testing.T) {
	for _, a := range wrongSpans() {
		for name, call := range oneCalls() {
			want(t, name+" of "+toldSpan(a), call(a), api.ErrShape.Error())
		}
		for name, call := range twoCalls() {
			for _, b := range []api.Span{{}, of(1, 2), line, point(-3), of(2, 1)} { // {}: ahead of ErrZero
				want(t, name+" of "+toldSpan(a)+" and "+toldSpan(b), call(a, b), api.ErrShape.Error())
				want(t, name+" of "+toldSpan(b)+" and "+toldSpan(a), call(b, a), api.ErrShape.Error())
			}
		}
	}
}

// wrongNumbers are exact numbers that are not right, and their errors (R1).
func wrongNumbers() map[api.Ratio]api.Errno {
	nines, long := strings.Repeat("9", api.MaxDigits), strings.Repeat("9", api.MaxDigits+1)
	l := map[api.Ratio]api.Errno{
		{Num: long, Den: "1"}: api.ErrLong, {Num: "-" + long, Den: "1"}: api.ErrLong, {Num: "1", Den: long}: api.ErrLong, {Num: long, Den: long}: api.ErrLong,
		{Num: long, Den: "0"}: api.ErrShape, {Num: "0", Den: long}: api.ErrShape, {Num: "x", Den: long}: api.ErrShape, {Num: nines, Den: "3"}: api.ErrShape,
	}
	for _, s := range [][2]string{{"", ""}, {"1", ""}, {"", "1"}, {"1", "0"}, {"0", "2"}, {"-0", "1"}, {"2", "4"}, {"3", "-2"}, {"1", "-1"}, {"+1", "1"}, {"01", "1"}, {"1", "01"}, {"1.5", "1"}, {"x", "1"}, {"1", "x"}, {"inf", "1"}, {"-", "1"}} {
		l[api.Ratio{Num: s[0], Den: s[1]}] = api.ErrShape
	}
	return l
}

// 5.1: of an exact number R1's error, of the first one first, ahead of what is wrong with both.
func TestNumbersNotRight(t *testing.T) {
	nines := strings.Repeat("9", api.MaxDigits)
	right := []api.Ratio{{Num: "0", Den: "1"}, {Num: "-7", Den: "3"}, {Num: nines, Den: "1"}, {Num: "-" + nines, Den: "1"}, {Num: "1", Den: nines}}
	for r, e := range wrongNumbers() {
		what := short(r.Num + " by " + r.Den)
		for _, a := range []api.Span{{}, of(1, 2), line} {
			want(t, "Has "+what, tellBool(span.Has(a, r)), e.Error())
		}
		for _, other := range right {
			want(t, "Of, low "+what, tell(span.Of(r, other)), e.Error())
			want(t, "Of, high "+what, tell(span.Of(other, r)), e.Error())
		}
		for other := range wrongNumbers() {
			want(t, "Of, both "+what, tell(span.Of(r, other)), e.Error())
		}
	}
}

// 5.2: Point.
func TestPoint(t *testing.T) {
	for _, x := range []float64{inf, -inf, none, math.Float64frombits(0xfff0000000000001)} {
		want(t, "Point of "+told(x), tell(span.Point(x)), api.ErrNotFinite.Error())
	}
	want(t, "Point of -0", tell(span.Point(minus)), toldSpan(point(0)))
	r := random(1)
	for _, x := range edges()[1:18] {
		want(t, "Point of "+told(x), tell(span.Point(x)), toldSpan(point(x)))
	}
	for range 1000 {
		x := anyFloat(r)
		want(t, "Point of "+told(x), tell(span.Point(x)), toldSpan(point(x)))
	}
}
