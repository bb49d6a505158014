// Package ratio is layer 1: exact numbers, which are fractions of whole numbers of any size (see shared/doc/01-ratio.md).
package ratio

import (
	"strings"

	"tontine/api"
	"tontine/exact"
	"tontine/whole"
)

// Limits of this layer.
const (
	MaxPower  = 1 << 12 // a power's size
	MaxPlaces = 1 << 10 // digits behind a point
	MaxNear   = 1 << 12 // a denominator that is looked for
)

// Check is what is wrong with a, or OK (1.1).
func Check(a api.Ratio) api.Errno {
	_, e := read(a)
	return e
}

// Of is p by q (1.1).
func Of(p, q int) (api.Ratio, api.Errno) {
	if q == 0 {
		return api.Ratio{}, api.ErrZero
	}
	return answer(lowest((p < 0) != (q < 0), whole.Of(size(p)), whole.Of(size(q))))
}

// size is right of the least int too, whose size is no int.
func size(n int) uint64 {
	if n < 0 {
		return -uint64(n)
	}
	return uint64(n)
}

// Neg is -a (1.2).
func Neg(a api.Ratio) (api.Ratio, api.Errno) {
	f, e := read(a)
	if e != api.OK {
		return api.Ratio{}, e
	}
	return answer(f.negated())
}

// Add is a + b (1.2).
func Add(a, b api.Ratio) (api.Ratio, api.Errno) {
	f, g, e := readTwo(a, b)
	if e != api.OK {
		return api.Ratio{}, e
	}
	return answer(plus(f, g))
}

// Sub is a - b (1.2).
func Sub(a, b api.Ratio) (api.Ratio, api.Errno) {
	f, g, e := readTwo(a, b)
	if e != api.OK {
		return api.Ratio{}, e
	}
	return answer(plus(f, g.negated()))
}

// Mul is a times b (1.2).
func Mul(a, b api.Ratio) (api.Ratio, api.Errno) {
	f, g, e := readTwo(a, b)
	if e != api.OK {
		return api.Ratio{}, e
	}
	return answer(times(f, g))
}

// Div is a by b (1.2).
func Div(a, b api.Ratio) (api.Ratio, api.Errno) {
	f, g, e := readTwo(a, b)
	if e != api.OK {
		return api.Ratio{}, e
	}
	if g.num.IsZero() {
		return api.Ratio{}, api.ErrZero
	}
	return answer(times(f, g.inverse()))
}

// Pow is a to the n (1.3).
func Pow(a api.Ratio, n int) (api.Ratio, api.Errno) {
	f, e := read(a)
	switch {
	case e != api.OK:
		return api.Ratio{}, e
	case n < -MaxPower || n > MaxPower:
		return api.Ratio{}, api.ErrRange
	case f.num.IsZero() && n < 0:
		return api.Ratio{}, api.ErrZero
	case n < 0:
		f, n = f.inverse(), -n
	}
	if powerIsLong(f.num, n) || powerIsLong(f.den, n) {
		return api.Ratio{}, api.ErrLong
	}
	return answer(fraction{f.neg && n%2 == 1, f.num.Pow(n), f.den.Pow(n)})
}

// powerIsLong spares the work on powers that are far too long: x is not below 2 to the BitLen - 1.
func powerIsLong(x whole.Nat, n int) bool {
	return (x.BitLen()-1)*n > exact.MostBits
}

// Cmp is -1, 0 or 1: a is below b, is b, is above b (1.2).
func Cmp(a, b api.Ratio) (int, api.Errno) {
	f, g, e := readTwo(a, b)
	if e != api.OK {
		return 0, e
	}
	return compare(f, g), api.OK
}

// Sign is -1, 0 or 1: a is below nought, is nought, is above nought (1.2).
func Sign(a api.Ratio) (int, api.Errno) {
	f, e := read(a)
	if e != api.OK {
		return 0, e
	}
	return f.sign(), api.OK
}

// Text is Num, or Num, / and Den (1.5).
func Text(a api.Ratio) (string, api.Errno) {
	if e := Check(a); e != api.OK {
		return "", e
	}
	if a.Den == "1" {
		return strings.Clone(a.Num), api.OK
	}
	return a.Num + "/" + a.Den, api.OK
}
