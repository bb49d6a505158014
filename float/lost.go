package float

import (
	"math"

	"tontine/api"
	"tontine/exact"
	"tontine/whole"
)

// TwoSum is the sum and what it lost (2.6).
func TwoSum(x, y float64) (float64, float64) {
	s := x + y
	if !isFinite(Split(s)) {
		return s, 0
	}
	// What came of the greater one, and then what lacks of the lesser one: both are floats, so nothing is rounded (Dekker).
	if math.Abs(x) < math.Abs(y) {
		x, y = y, x
	}
	e := y - (s - x)
	if e == 0 {
		return s, 0 // a nought may have come with either sign
	}
	return s, e
}

// TwoProduct is the product and what it lost (2.6).
func TwoProduct(x, y float64) (float64, api.Ratio, api.Errno) {
	a, b := Split(x), Split(y)
	if !isFinite(a) || !isFinite(b) {
		return 0, api.Ratio{}, api.ErrNotFinite
	}
	p := float64(x * y)
	c := Split(p)
	if !isFinite(c) {
		return 0, api.Ratio{}, api.ErrRange
	}
	lost, e := lostOf(a, b, c)
	return p, lost, e
}

// lostOf is the exact product of a and b, less what it was rounded to: c, which has its sign.
func lostOf(a, b, c api.Parts) (api.Ratio, api.Errno) {
	neg := a.Neg != b.Neg
	exp := min(a.Exp+b.Exp, c.Exp)
	product := whole.Of(a.Mant).Mul(whole.Of(b.Mant)).ShiftLeft(a.Exp + b.Exp - exp)
	rounded := whole.Of(c.Mant).ShiftLeft(c.Exp - exp)
	if product.Cmp(rounded) < 0 {
		return exact.WriteScaled(!neg, rounded.Sub(product), exp)
	}
	return exact.WriteScaled(neg, product.Sub(rounded), exp)
}
