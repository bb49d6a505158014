// Package reckon is how the layers that go one way with exact numbers, floats and spans reckon with each of these.
package reckon

import (
	"tontine/api"
	"tontine/exact"
	"tontine/ratio"
	"tontine/span"
)

// Numbers is how one kind of numbers is reckoned with, each operation rounded by itself, if that kind is rounded at all. The zero value of floats and of spans is their nought; of exact numbers it is no number.
type Numbers[T any] struct {
	Of                     func(p, q int) T // p by q, which is above 0
	Plus, Minus, Times, By func(x, y T) T
}

// Exacts are not rounded, and always in lowest terms.
func Exacts() Numbers[exact.Fraction] {
	return Numbers[exact.Fraction]{
		Of:    func(p, q int) exact.Fraction { return exact.OfInt(p).Times(exact.OfInt(q).Inverse()) },
		Plus:  exact.Fraction.Plus,
		Minus: func(x, y exact.Fraction) exact.Fraction { return x.Plus(y.Negated()) },
		Times: exact.Fraction.Times,
		By:    func(x, y exact.Fraction) exact.Fraction { return x.Times(y.Inverse()) },
	}
}

// Floats are rounded half to even; the conversion makes sure that a product is, ahead of its being added or taken away.
func Floats() Numbers[float64] {
	return Numbers[float64]{
		Of:    func(p, q int) float64 { return float64(p) / float64(q) },
		Plus:  func(x, y float64) float64 { return x + y },
		Minus: func(x, y float64) float64 { return x - y },
		Times: func(x, y float64) float64 { return float64(x * y) },
		By:    func(x, y float64) float64 { return x / y },
	}
}

// Spans are rounded outwards.
func Spans() Numbers[api.Span] {
	return Numbers[api.Span]{
		Of:    spanOf,
		Plus:  sure(span.Add),
		Minus: sure(span.Sub),
		Times: sure(span.Mul),
		By:    sure(span.Div),
	}
}

// spanOf is the span of p by q, which is above 0.
func spanOf(p, q int) api.Span {
	r, _ := ratio.Of(p, q)
	s, _ := span.Of(r, r)
	return s
}

// sure is an operation on spans that are right, and by none that is nought alone: so it refuses none of them.
func sure(operation func(a, b api.Span) (api.Span, api.Errno)) func(a, b api.Span) api.Span {
	return func(a, b api.Span) api.Span {
		s, _ := operation(a, b)
		return s
	}
}
