package ratio

import (
	"strings"

	"tontine/api"
	"tontine/exact"
	"tontine/whole"
)

// Round is a, rounded to a multiple of step (1.4).
func Round(a, step api.Ratio, mode int) (api.Ratio, api.Errno) {
	f, s, e := readTwo(a, step)
	if e != api.OK {
		return api.Ratio{}, e
	}
	if s.sign() <= 0 || !exact.IsWay(mode) {
		return api.Ratio{}, api.ErrRange
	}
	n := rounded(f.neg, f.num.Mul(s.den), f.den.Mul(s.num), mode)
	return answer(times(wholeFraction(f.neg, n), s))
}

// Decimal is a, rounded to so many places, in decimal digits (1.4).
func Decimal(a api.Ratio, places, mode int) (string, api.Errno) {
	f, e := read(a)
	if e != api.OK {
		return "", e
	}
	if places < 0 || places > MaxPlaces || !exact.IsWay(mode) {
		return "", api.ErrRange
	}
	n := rounded(f.neg, f.num.Mul(whole.Of(10).Pow(places)), f.den, mode)
	digits := n.Text()
	if lack := places + 1 - len(digits); lack > 0 {
		digits = strings.Repeat("0", lack) + digits
	}
	if len(digits) > api.MaxDigits {
		return "", api.ErrLong
	}
	point := len(digits) - places
	text := exact.WithSign(f.neg && !n.IsZero(), digits[:point])
	if places > 0 {
		text += "." + digits[point:]
	}
	return text, api.OK
}

// rounded is the size of the whole number that num by den, below nought if neg, becomes by the way.
func rounded(neg bool, num, den whole.Nat, mode int) whole.Nat {
	n, rest := num.DivMod(den)
	if rest.IsZero() || !exact.IsAway(neg, n.IsOdd(), rest.ShiftLeft(1).Cmp(den), mode) {
		return n
	}
	return n.Add(whole.Of(1))
}
