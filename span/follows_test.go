package span_test

import (
	"fmt"
	"math"
	"math/big"
	"slices"
	"testing"

	"tontine/api"
	"tontine/span"
)

// has asks Has itself, unless the number is too long for it.
func has(t *testing.T, what string, a api.Span, r *big.Rat) {
	t.Helper()
	n := ratio(r)
	if len(n.Num) > api.MaxDigits || len(n.Den) > api.MaxDigits {
		if !holds(a, r) {
			t.Errorf("%s: %s has not the exact number", what, toldSpan(a))
		}
		return
	}
	want(t, what+": whether "+toldSpan(a)+" has "+r.String(), tellBool(span.Has(a, n)), "true")
}

// 5.9: what is in stays in.
func TestStaysIn(t *testing.T) {
	r := random(11)
	for range 3000 {
		a, b := anySpan(r), anySpan(r)
		x, y := inside(r, a), inside(r, b)
		what := " of " + toldSpan(a) + " and " + toldSpan(b)
		has(t, "Neg"+what, must(t)(span.Neg(a)), new(big.Rat).Neg(x))
		has(t, "Add"+what, must(t)(span.Add(a, b)), new(big.Rat).Add(x, y))
		has(t, "Sub"+what, must(t)(span.Sub(a, b)), new(big.Rat).Sub(x, y))
		has(t, "Mul"+what, must(t)(span.Mul(a, b)), new(big.Rat).Mul(x, y))
		if y.Sign() != 0 {
			has(t, "Div"+what, must(t)(span.Div(a, b)), new(big.Rat).Quo(x, y))
		}
		n := r.Intn(9)
		power := big.NewRat(1, 1)
		for range n {
			power.Mul(power, x)
		}
		has(t, fmt.Sprint("Pow, ", n, what), must(t)(span.Pow(a, n)), power)
		square := new(big.Rat).Mul(x, x)
		squares := must(t)(span.Of(ratio(square), ratio(square)))
		has(t, "Root"+what, must(t)(span.Root(squares)), new(big.Rat).Abs(x))
	}
}

// 5.9: of lists.
func TestStaysInLists(t *testing.T) {
	r := random(12)
	for range 400 {
		l, m, x := anySpans(r, r.Intn(7)), []api.Span{}, anySpan(r)
		sum, dot, horner, at := new(big.Rat), new(big.Rat), new(big.Rat), inside(r, x)
		for _, a := range slices.Backward(l) {
			b := anySpan(r)
			m = append([]api.Span{b}, m...)
			p, q := inside(r, a), inside(r, b)
			sum.Add(sum, p)
			dot.Add(dot, new(big.Rat).Mul(p, q))
			horner.Add(p, horner.Mul(horner, at))
		}
		has(t, "Sum", must(t)(span.Sum(l)), sum)
		has(t, "Dot", must(t)(span.Dot(l, m)), dot)
		has(t, "Horner", must(t)(span.Horner(l, x)), horner)
	}
}

// wider has a within it.
func wider(t *testing.T, a, b api.Span) api.Span { return must(t)(span.Hull(a, b)) }

// 5.10: narrower in, narrower out.
func TestNarrower(t *testing.T) {
	r := random(13)
	within := func(what string, a api.Span, e api.Errno) func(c api.Span, e api.Errno) {
		return func(c api.Span, f api.Errno) {
			t.Helper()
			if e == api.OK && f == api.OK {
				want(t, what+": "+toldSpan(a)+" within "+toldSpan(c), tellBool(span.Within(a, c)), "true")
			}
		}
	}
	then := func(name string, call func(a, b api.Span) (api.Span, api.Errno)) {
		for range 1500 {
			a, b := anySpan(r), anySpan(r)
			c, d := wider(t, a, anySpan(r)), wider(t, b, anySpan(r))
			s, e := call(a, b)
			within(name, s, e)(call(c, d))
		}
	}
	one := func(name string, call func(a api.Span) (api.Span, api.Errno)) {
		then(name, func(a, _ api.Span) (api.Span, api.Errno) { return call(a) })
	}
	one("Neg", span.Neg)
	one("Root", span.Root)
	for n := range 6 {
		one("Pow", func(a api.Span) (api.Span, api.Errno) { return span.Pow(a, n) })
	}
	then("Add", span.Add)
	then("Sub", span.Sub)
	then("Mul", span.Mul)
	then("Div", span.Div)
	then("Hull", span.Hull)
	then("Meet", span.Meet)
	then("Sum", func(a, b api.Span) (api.Span, api.Errno) { return span.Sum([]api.Span{a, point(3), b}) })
	then("Dot", func(a, b api.Span) (api.Span, api.Errno) { return span.Dot([]api.Span{a, b}, []api.Span{b, a}) })
	then("Horner", func(a, b api.Span) (api.Span, api.Errno) { return span.Horner([]api.Span{a, point(3), b, a}, b) })
}

// 5.11: Add and Mul do not hang on the order of two, Sum not on the list's; it is within what Add gives of all.
func TestNoOrder(t *testing.T) {
	r := random(14)
	for range 1000 {
		a, b := anySpan(r), anySpan(r)
		want(t, "Add", tell(span.Add(b, a)), tell(span.Add(a, b)))
		want(t, "Mul", tell(span.Mul(b, a)), tell(span.Mul(a, b)))
	}
	for i := range 500 {
		l := anySpans(r, r.Intn(9))
		if i%2 == 0 {
			l = nil
			for range r.Intn(9) {
				l = append(l, finiteSpan(r))
			}
		}
		sum := must(t)(span.Sum(l))
		behind := of(0, 0)
		for _, a := range l {
			behind = must(t)(span.Add(behind, a))
		}
		want(t, "Sum is within", tellBool(span.Within(sum, behind)), "true")
		r.Shuffle(len(l), func(i, j int) { l[i], l[j] = l[j], l[i] })
		want(t, "Sum of another order", tell(span.Sum(l)), toldSpan(sum))
	}
}

// 5.12: Meet is within both, Hull has both within it. (Parse of Text: TestTexts.)
func TestMeetAndHull(t *testing.T) {
	r := random(15)
	for range 3000 {
		a, b := anySpan(r), anySpan(r)
		hull := must(t)(span.Hull(a, b))
		meet, e := span.Meet(a, b)
		for _, c := range []api.Span{a, b} {
			want(t, "Hull", tellBool(span.Within(c, hull)), "true")
			if e == api.OK {
				want(t, "Meet", tellBool(span.Within(meet, c)), "true")
			}
		}
		order, _ := span.Cmp(a, b)
		if (e == api.ErrNone) != (order != 0) {
			t.Errorf("%s and %s: Meet %v, Cmp %d", toldSpan(a), toldSpan(b), e, order)
		}
	}
}

// R8: a nought that is an end is +0, of whatever call.
func TestNoughtsHaveNoSign(t *testing.T) {
	noSign := func(a api.Span, e api.Errno) {
		t.Helper()
		if a.Lo == 0 && math.Signbit(a.Lo) || a.Hi == 0 && math.Signbit(a.Hi) || e == api.OK && span.Check(a) != api.OK {
			t.Errorf("%s", toldSpan(a))
		}
	}
	some := []api.Span{{}, of(-1, 0), of(0, 1), of(-1, 1), point(-least), point(least), point(1), point(-1), of(-inf, 0), of(0, inf), of(-inf, -1), of(1, inf), line}
	for _, a := range some {
		noSign(span.Neg(a))
		noSign(span.Root(a))
		noSign(span.Sum([]api.Span{a}))
		for n := range 6 {
			noSign(span.Pow(a, n))
		}
		for _, b := range some {
			noSign(span.Add(a, b))
			noSign(span.Sub(a, b))
			noSign(span.Mul(a, b))
			noSign(span.Div(a, b))
			noSign(span.Hull(a, b))
			noSign(span.Meet(a, b))
			noSign(span.Sum([]api.Span{a, b}))
			noSign(span.Dot([]api.Span{a, b}, []api.Span{b, b}))
			noSign(span.Horner([]api.Span{a, b, a}, b))
		}
	}
}
