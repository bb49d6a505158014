package column_test

import (
	"testing"

	"tontine/api"
	"tontine/column"
	"tontine/ratio"
	"tontine/span"
	"tontine/table"
)

// operations are those of span, of right spans alone.
type operations struct{ t *testing.T }

func (o operations) sure(s api.Span, e api.Errno) api.Span {
	o.t.Helper()
	if e != api.OK {
		o.t.Fatal(e)
	}
	return s
}

func (o operations) add(a, b api.Span) api.Span { return o.sure(span.Add(a, b)) }
func (o operations) sub(a, b api.Span) api.Span { return o.sure(span.Sub(a, b)) }
func (o operations) mul(a, b api.Span) api.Span { return o.sure(span.Mul(a, b)) }
func (o operations) div(a, b api.Span) api.Span { return o.sure(span.Div(a, b)) }

// of is the span of p by q.
func (o operations) of(p, q int) api.Span {
	r, e := ratio.Of(p, q)
	if e != api.OK {
		o.t.Fatal(e)
	}
	return o.sure(span.Of(r, r))
}

// fromEnd is the sums of a column, from its last line on.
func (o operations) fromEnd(column []api.Span) []api.Span {
	sums := make([]api.Span, len(column))
	last := len(column) - 1
	sums[last] = column[last]
	for n := last - 1; n >= 0; n-- {
		sums[n] = o.add(sums[n+1], column[n])
	}
	return sums
}

// spanColumns are the columns in spans, by the Words.
func spanColumns(t *testing.T, b api.Basis, l api.Life) map[string][]api.Span {
	t.Helper()
	o, rates := operations{t}, ratesOf(b.Table, l)
	alive, e := table.Spans(b.Table, l)
	if e != api.OK {
		t.Fatal(e)
	}
	m, v := len(rates), o.of(unit, unit+b.Rate)
	power := []api.Span{{Lo: 1, Hi: 1}}
	var d, c []api.Span
	for n, rate := range rates {
		power = append(power, o.mul(power[n], v))
		d = append(d, o.mul(alive[n], power[n]))
		c = append(c, o.mul(o.mul(alive[n], o.of(rate, unit)), power[n+1]))
	}
	d, c = append(d, o.mul(alive[m], power[m])), append(c, api.Span{})
	return sixOf(d, o.fromEnd(d), o.fromEnd(o.fromEnd(d)), c, o.fromEnd(c), o.fromEnd(o.fromEnd(c)))
}

// 12.1: Spans, bit by bit, m + 1 members in each.
func TestSpans(t *testing.T) {
	check := func(what string, b api.Basis, l api.Life) {
		wanted := spanColumns(t, b, l)
		got, e := column.Spans(b, l)
		want(t, "Spans of "+what, tellSpanColumns(got, e), tellSix(wanted, api.OK, tellSpan))
		for name, l := range spansOf(got) {
			if len(l) != len(wanted["D"]) {
				t.Errorf("%s: %s has %d members", what, name, len(l))
			}
		}
	}
	eachLife(check)
	eachLong(check)
}

// 12.4 (W2): the exact columns, and those in floats of the radix 1, are in the spans, which are right ones.
func TestSpansHold(t *testing.T) {
	check := func(what string, b api.Basis, l api.Life) {
		got, e := column.Spans(b, l)
		if e != api.OK {
			t.Fatal(e)
		}
		floats, _ := column.Floats(b, l, 1)
		exact, six := exactColumns(b, l), floatsOf(floats)
		for name, spans := range spansOf(got) {
			for n, s := range spans {
				switch {
				case span.Check(s) != api.OK:
					t.Errorf("%s: %s(%d) is no span: %v", what, name, n, s)
				case !isIn(exact[name][n], s):
					t.Errorf("%s: %v has not the exact %s(%d)", what, s, name, n)
				case six[name][n] < s.Lo || six[name][n] > s.Hi:
					t.Errorf("%s: %v has not %s(%d) in floats", what, s, name, n)
				}
			}
		}
	}
	eachLife(check)
	eachLong(check)
}

// 12.1: the spans of the examples' first line, and of the last one, which is nought alone.
func TestSpansOfTheExample(t *testing.T) {
	b, l := sample()
	got, e := column.Spans(b, l)
	if e != api.OK || len(got.D) != 5 {
		t.Fatal(got, e)
	}
	want(t, "D(0)", tellSpan(got.D[0], e), tellSpan(api.Span{Lo: 1, Hi: 1}, e))
	for name, spans := range spansOf(got) {
		want(t, name+"(4)", tellSpan(spans[4], e), tellSpan(api.Span{}, e))
	}
	for name, spans := range spansOf(got) {
		for n, s := range spans {
			if s.Hi-s.Lo > 1e-14 {
				t.Errorf("%s(%d) is wider than it must be: %v", name, n, s)
			}
		}
	}
}
