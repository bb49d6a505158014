// Package exact is what the layers share that are given exact numbers, or answer them: how these are read and written, and the six ways to round.
package exact

import (
	"tontine/api"
	"tontine/whole"
)

// MostBits: 10 to the MaxDigits is below 2 to the MostBits, so what has more binary digits has too many decimal ones.
const MostBits = api.MaxDigits*10/3 + 1

// fewBits: 2 to the fewBits is below 10 to the MaxDigits, so what has no more binary digits has not too many decimal ones.
const fewBits = api.MaxDigits * 3

// Read is the fraction of a right exact number; or it answers what is wrong with it, in the order of R1.
func Read(a api.Ratio) (Fraction, api.Errno) {
	if !IsWhole(a.Num) || !IsNatural(a.Den) || a.Den == "0" || a.Num == "0" && a.Den != "1" {
		return Fraction{}, api.ErrShape
	}
	neg, digits := CutSign(a.Num)
	if len(digits) > api.MaxDigits || len(a.Den) > api.MaxDigits {
		return Fraction{}, api.ErrLong
	}
	num, den := whole.Parse(digits), whole.Parse(a.Den)
	if !num.GCD(den).IsOne() {
		return Fraction{}, api.ErrShape
	}
	return Fraction{neg, num, den}, api.OK
}

// ReadAll is the fractions of a list, or what is wrong with it: ErrLong, if it has more than most members, or the first error of an exact number.
func ReadAll(l []api.Ratio, most int) ([]Fraction, api.Errno) {
	if len(l) > most {
		return nil, api.ErrLong
	}
	fractions := make([]Fraction, len(l))
	for i := range len(l) {
		f, e := Read(l[i])
		if e != api.OK {
			return nil, e
		}
		fractions[i] = f
	}
	return fractions, api.OK
}

// Write is num by den, which are in lowest terms, below nought if neg (nought never is), unless that is too long (R2).
func Write(neg bool, num, den whole.Nat) (api.Ratio, api.Errno) {
	if num.BitLen() > MostBits || den.BitLen() > MostBits {
		return api.Ratio{}, api.ErrLong
	}
	above, below := num.Text(), den.Text()
	if len(above) > api.MaxDigits || len(below) > api.MaxDigits {
		return api.Ratio{}, api.ErrLong
	}
	return api.Ratio{Num: WithSign(neg, above), Den: below}, api.OK
}

// WriteLowest is num by den, which may have a common divisor, below nought if neg, unless that is too long (R2).
func WriteLowest(neg bool, num, den whole.Nat) (api.Ratio, api.Errno) {
	return Lowest(neg, num, den).Ratio()
}

// WriteParts is all parts by the same number, unless one of them is too long (R2).
func WriteParts(parts []whole.Nat, by whole.Nat) ([]api.Ratio, api.Errno) {
	l := make([]api.Ratio, len(parts))
	for k, part := range parts {
		r, e := WriteLowest(false, part, by)
		if e != api.OK {
			return nil, e
		}
		l[k] = r
	}
	return l, api.OK
}

// WriteScaled is n times 2^exp, below nought if neg, unless that is too long (R2).
func WriteScaled(neg bool, n whole.Nat, exp int) (api.Ratio, api.Errno) {
	one := whole.Of(1)
	switch {
	case n.IsZero():
		return Write(false, n, one)
	case exp >= 0:
		return Write(neg, n.ShiftLeft(exp), one)
	}
	common := min(n.TrailingZeros(), -exp)
	return Write(neg, n.ShiftRight(common), one.ShiftLeft(-exp-common))
}
