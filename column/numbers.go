package column

import (
	"tontine/api"
	"tontine/ratio"
	"tontine/span"
)

// numbers is how one kind of numbers is reckoned with, each operation rounded by itself. Its nought is the zero value.
type numbers[T any] struct {
	of                     func(p, q int) T // p by q
	plus, minus, times, by func(x, y T) T
}

// floats are rounded half to even; the conversion makes sure that a product is, ahead of its being added or taken away.
func floats() numbers[float64] {
	return numbers[float64]{
		of:    func(p, q int) float64 { return float64(p) / float64(q) },
		plus:  func(x, y float64) float64 { return x + y },
		minus: func(x, y float64) float64 { return x - y },
		times: func(x, y float64) float64 { return float64(x * y) },
		by:    func(x, y float64) float64 { return x / y },
	}
}

// spans are rounded outwards.
func spans() numbers[api.Span] {
	return numbers[api.Span]{
		of:    spanOf,
		plus:  sure(span.Add),
		minus: sure(span.Sub),
		times: sure(span.Mul),
		by:    sure(span.Div),
	}
}

// spanOf is the span of p by q, which is not 0.
func spanOf(p, q int) api.Span {
	r, _ := ratio.Of(p, q)
	s, _ := span.Of(r, r)
	return s
}

// sure is an operation that refuses none of the spans which columns are made of: they all are right, and the first D is 1.
func sure(operation func(a, b api.Span) (api.Span, api.Errno)) func(a, b api.Span) api.Span {
	return func(a, b api.Span) api.Span {
		s, _ := operation(a, b)
		return s
	}
}
