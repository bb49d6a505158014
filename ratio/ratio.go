// Package ratio is layer 1: exact numbers, which are fractions of whole numbers of any size (see shared/doc/01-ratio.md).
package ratio

import (
	"strings"

	"tontine/api"
	"tontine/exact"
	"tontine/whole"
)

// Limits of this layer.
const (
	MaxPower  = 1 << 12 // a power's size
	MaxPlaces = 1 << 10 // digits behind a point
	MaxNear   = 1 << 12 // a denominator that is looked for
)

// Check is what is wrong with a, or OK (1.1).
func Check(a api.Ratio) api.Errno {
	_, e := exact.Read(a)
	return e
}

// Of is p by q (1.1).
func Of(p, q int) (api.Ratio, api.Errno) {
	if q == 0 {
		return api.Ratio{}, api.ErrZero
	}
	return exact.OfInt(p).Times(exact.OfInt(q).Inverse()).Ratio()
}

// readTwo is the fractions of both, or what is wrong with the first one that is not right.
func readTwo(a, b api.Ratio) (exact.Fraction, exact.Fraction, api.Errno) {
	f, e := exact.Read(a)
	if e != api.OK {
		return exact.Fraction{}, exact.Fraction{}, e
	}
	g, e := exact.Read(b)
	if e != api.OK {
		return exact.Fraction{}, exact.Fraction{}, e
	}
	return f, g, api.OK
}

// Neg is -a (1.2).
func Neg(a api.Ratio) (api.Ratio, api.Errno) {
	f, e := exact.Read(a)
	if e != api.OK {
		return api.Ratio{}, e
	}
	return f.Negated().Ratio()
}

// Add is a + b (1.2).
func Add(a, b api.Ratio) (api.Ratio, api.Errno) {
	f, g, e := readTwo(a, b)
	if e != api.OK {
		return api.Ratio{}, e
	}
	return f.Plus(g).Ratio()
}

// Sub is a - b (1.2).
func Sub(a, b api.Ratio) (api.Ratio, api.Errno) {
	f, g, e := readTwo(a, b)
	if e != api.OK {
		return api.Ratio{}, e
	}
	return f.Plus(g.Negated()).Ratio()
}

// Mul is a times b (1.2).
func Mul(a, b api.Ratio) (api.Ratio, api.Errno) {
	f, g, e := readTwo(a, b)
	if e != api.OK {
		return api.Ratio{}, e
	}
	return f.Times(g).Ratio()
}

// Div is a by b (1.2).
func Div(a, b api.Ratio) (api.Ratio, api.Errno) {
	f, g, e := readTwo(a, b)
	if e != api.OK {
		return api.Ratio{}, e
	}
	if g.Num.IsZero() {
		return api.Ratio{}, api.ErrZero
	}
	return f.Times(g.Inverse()).Ratio()
}

// Pow is a to the n (1.3).
func Pow(a api.Ratio, n int) (api.Ratio, api.Errno) {
	f, e := exact.Read(a)
	switch {
	case e != api.OK:
		return api.Ratio{}, e
	case n < -MaxPower || n > MaxPower:
		return api.Ratio{}, api.ErrRange
	case f.Num.IsZero() && n < 0:
		return api.Ratio{}, api.ErrZero
	case n < 0:
		f, n = f.Inverse(), -n
	}
	if powerIsLong(f.Num, n) || powerIsLong(f.Den, n) {
		return api.Ratio{}, api.ErrLong
	}
	return f.Power(n).Ratio()
}

// powerIsLong spares the work on powers that are far too long: x is not below 2 to the BitLen - 1.
func powerIsLong(x whole.Nat, n int) bool {
	return (x.BitLen()-1)*n > exact.MostBits
}

// Cmp is -1, 0 or 1: a is below b, is b, is above b (1.2).
func Cmp(a, b api.Ratio) (int, api.Errno) {
	f, g, e := readTwo(a, b)
	if e != api.OK {
		return 0, e
	}
	return f.Cmp(g), api.OK
}

// Sign is -1, 0 or 1: a is below nought, is nought, is above nought (1.2).
func Sign(a api.Ratio) (int, api.Errno) {
	f, e := exact.Read(a)
	if e != api.OK {
		return 0, e
	}
	return f.Sign(), api.OK
}

// Text is Num, or Num, / and Den (1.5).
func Text(a api.Ratio) (string, api.Errno) {
	if e := Check(a); e != api.OK {
		return "", e
	}
	if a.Den == "1" {
		return strings.Clone(a.Num), api.OK
	}
	return a.Num + "/" + a.Den, api.OK
}
