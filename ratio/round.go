package ratio

import (
	"strings"

	"tontine/api"
	"tontine/exact"
	"tontine/whole"
)

// Round is a, rounded to a multiple of step (1.4).
func Round(a, step api.Ratio, mode int) (api.Ratio, api.Errno) {
	f, s, e := readTwo(a, step)
	if e != api.OK {
		return api.Ratio{}, e
	}
	if s.Sign() <= 0 || !exact.IsWay(mode) {
		return api.Ratio{}, api.ErrRange
	}
	return f.Times(s.Inverse()).Round(mode).Times(s).Ratio()
}

// Decimal is a, rounded to so many places, in decimal digits (1.4).
func Decimal(a api.Ratio, places, mode int) (string, api.Errno) {
	f, e := exact.Read(a)
	if e != api.OK {
		return "", e
	}
	if places < 0 || places > MaxPlaces || !exact.IsWay(mode) {
		return "", api.ErrRange
	}
	f.Num = f.Num.Mul(whole.Of(10).Pow(places))
	n := f.Round(mode)
	digits := n.Num.Text()
	if lack := places + 1 - len(digits); lack > 0 {
		digits = strings.Repeat("0", lack) + digits
	}
	if len(digits) > api.MaxDigits {
		return "", api.ErrLong
	}
	point := len(digits) - places
	text := exact.WithSign(n.Neg, digits[:point])
	if places > 0 {
		text += "." + digits[point:]
	}
	return text, api.OK
}
