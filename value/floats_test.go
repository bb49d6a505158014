package value_test

import (
	"fmt"
	"testing"

	"tontine/api"
	"tontine/ratio"
	"tontine/span"
	"tontine/value"
)

// paid is now, then and dead of the stated recursion, in the year k, of a benefit of which nothing is sure.
func paid(f api.Benefit, k int) (int, int, int) {
	now, then, dead, end := 0, 0, 0, f.Wait+f.Term
	in := f.Wait <= k && k < end
	if f.Kind == api.BDue && in {
		now = 1
	}
	if f.Kind == api.BLate && f.Wait < k+1 && k+1 <= end || (f.Kind == api.BEndow || f.Kind == api.BBoth) && k+1 == end {
		then = 1
	}
	switch {
	case (f.Kind == api.BAssure || f.Kind == api.BBoth) && in:
		dead = 1
	case f.Kind == api.BRising && in:
		dead = k - f.Wait + 1
	case f.Kind == api.BFalling && in:
		dead = end - k
	}
	return now, then, dead
}

// without is a benefit without what is sure of it.
func without(f api.Benefit) api.Benefit {
	return api.Benefit{Kind: f.Kind, Wait: f.Wait + f.Sure, Term: f.Term - f.Sure}
}

// inFloats is the stated recursion in floats; year is what becomes of w in a year.
func inFloats(b api.Basis, l api.Life, f api.Benefit, year func(now, then, dead, q, p, v, w float64) float64) float64 {
	rates, rest, v := ratesOf(b.Table, l), without(f), 10000000.0/float64(10000000+b.Rate)
	w, c := 0.0, 0.0
	for k := len(rates) - 1; k >= 0 && rest.Term > 0; k-- {
		now, then, dead := paid(rest, k)
		w = year(float64(now), float64(then), float64(dead), float64(rates[k])/10000000.0, float64(10000000-rates[k])/10000000.0, v, w)
	}
	if f.Sure == 0 {
		return w
	}
	for range f.Sure {
		if f.Kind == api.BDue {
			c = 1 + float64(v*c)
		} else {
			c = float64(v * (1 + c))
		}
	}
	for range f.Wait {
		c = float64(v * c)
	}
	return w + c
}

// stated is a year as it is written.
func stated(now, then, dead, q, p, v, w float64) float64 {
	return now + float64(v*(float64(q*dead)+float64(p*(then+w))))
}

// 13.5: Float, bit by bit.
func TestFloat(t *testing.T) {
	check := func(what string, b api.Basis, l api.Life, f api.Benefit) {
		want(t, "Float of "+what, tellFloat(value.Float(b, l, f)), bits(inFloats(b, l, f, stated)))
	}
	eachBenefit(6, check)
	eachLongBenefit(8, check)
}

// 13.5: the order of operations is to be seen in the last digits: the benefits of the tests tell other orders apart.
func TestFloatsAreRounded(t *testing.T) {
	others := map[string]func(now, then, dead, q, p, v, w float64) float64{
		"v q dead + v p (then + w)": func(now, then, dead, q, p, v, w float64) float64 {
			return now + (float64(float64(v*q)*dead) + float64(float64(v*p)*(then+w)))
		},
		"p then + p w": func(now, then, dead, q, p, v, w float64) float64 {
			return now + float64(v*(float64(q*dead)+(float64(p*then)+float64(p*w))))
		},
		"1 - q": func(now, then, dead, q, p, v, w float64) float64 {
			return now + float64(v*(float64(q*dead)+float64((1-q)*(then+w))))
		},
		"by 1 by v": func(now, then, dead, q, p, v, w float64) float64 {
			return now + (float64(q*dead)+float64(p*(then+w)))/(1/v)
		},
		"then behind": func(now, then, dead, q, p, v, w float64) float64 {
			return now + float64(v*(float64(p*then)+(float64(q*dead)+float64(p*w))))
		},
	}
	seen := map[string]int{}
	look := func(what string, b api.Basis, l api.Life, f api.Benefit) {
		got, e := value.Float(b, l, f)
		if e != api.OK {
			t.Fatal(what, e)
		}
		for other, year := range others {
			if inFloats(b, l, f, year) != got {
				seen[other]++
			}
		}
	}
	eachBenefit(1, look)
	eachLongBenefit(2, look)
	for other := range others {
		if seen[other] == 0 {
			t.Errorf("no benefit tells %s apart", other)
		}
	}
}

// operations are those of span, of right spans alone.
type operations struct{ t *testing.T }

func (o operations) sure(s api.Span, e api.Errno) api.Span {
	o.t.Helper()
	if e != api.OK {
		o.t.Fatal(e)
	}
	return s
}

func (o operations) add(a, b api.Span) api.Span { return o.sure(span.Add(a, b)) }
func (o operations) mul(a, b api.Span) api.Span { return o.sure(span.Mul(a, b)) }

// of is the span of p by q.
func (o operations) of(p, q int) api.Span {
	r, e := ratio.Of(p, q)
	if e != api.OK {
		o.t.Fatal(e)
	}
	return o.sure(span.Of(r, r))
}

// point is the span of a whole number.
func (o operations) point(n int) api.Span { return o.sure(span.Point(float64(n))) }

// inSpans is the stated recursion by spans.
func (o operations) inSpans(b api.Basis, l api.Life, f api.Benefit) api.Span {
	rates, rest, v := ratesOf(b.Table, l), without(f), o.of(unit, unit+b.Rate)
	var w, c api.Span
	for k := len(rates) - 1; k >= 0 && rest.Term > 0; k-- {
		now, then, dead := paid(rest, k)
		q, p := o.of(rates[k], unit), o.of(unit-rates[k], unit)
		w = o.add(o.point(now), o.mul(v, o.add(o.mul(q, o.point(dead)), o.mul(p, o.add(o.point(then), w)))))
	}
	if f.Sure == 0 {
		return w
	}
	for range f.Sure {
		if f.Kind == api.BDue {
			c = o.add(o.point(1), o.mul(v, c))
		} else {
			c = o.mul(v, o.add(o.point(1), c))
		}
	}
	for range f.Wait {
		c = o.mul(v, c)
	}
	return o.add(w, c)
}

// 13.5: Span, bit by bit.
func TestSpan(t *testing.T) {
	o := operations{t}
	check := func(what string, b api.Basis, l api.Life, f api.Benefit) {
		want(t, "Span of "+what, tellSpan(value.Span(b, l, f)), tellSpan(o.inSpans(b, l, f), api.OK))
	}
	eachBenefit(2, check)
	eachLongBenefit(2, check)
}

// 13.10 (W2): the value, and Float, are in Span, which is a right one.
func TestSpansHold(t *testing.T) {
	check := func(what string, b api.Basis, l api.Life, f api.Benefit) {
		s, e := value.Span(b, l, f)
		x, _ := value.Float(b, l, f)
		r, eOfR := value.Exact(b, l, f)
		switch {
		case e != api.OK || span.Check(s) != api.OK:
			t.Errorf("Span of %s: %v, %v", what, s, e)
		case x < s.Lo || x > s.Hi:
			t.Errorf("%s: %v is not in %v", what, x, s)
		case !isIn(number(t, r, eOfR), s):
			t.Errorf("%s: %v has not the value", what, s)
		case s.Hi-s.Lo > 1e-9:
			t.Errorf("%s: %v is wider than it must be", what, s)
		}
	}
	eachBenefit(3, check)
	eachLongBenefit(2, check)
}

// 13.5, R8: what is worth nothing is +0, in floats and in spans.
func TestWorthNothing(t *testing.T) {
	b, l := sample()
	for _, kind := range kinds {
		for _, wait := range []int{4, 5, longest} {
			for _, term := range []int{1, longest} {
				f := api.Benefit{Kind: kind, Wait: wait, Term: term}
				want(t, fmt.Sprint("Float of ", f), tellFloat(value.Float(b, l, f)), bits(0))
				want(t, fmt.Sprint("Span of ", f), tellSpan(value.Span(b, l, f)), tellSpan(api.Span{}, api.OK))
				want(t, fmt.Sprint("Exact of ", f), tellRatio(value.Exact(b, l, f)), "0/1")
			}
		}
	}
}
