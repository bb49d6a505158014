package digits

import (
	"strconv"
	"strings"

	"tontine/api"
	"tontine/exact"
	"tontine/float"
)

// Digits by sixteens behind the point: so many hold just the bits of m below the first one of a normal float.
const (
	hexDigits    = 13
	fractionBits = 4 * hexDigits
)

// Hex is x by sixteens (3.6).
func Hex(x float64) string {
	p := float.Split(x)
	switch {
	case !isFinite(p):
		return notFinite(p)
	case p.Mant == 0:
		return exact.WithSign(p.Neg, "0x0p0")
	}
	first := "0x0"
	if p.Kind == api.FloatNormal {
		first = "0x1"
	}
	digits := strconv.FormatUint(p.Mant|1<<fractionBits, 16)[1:] // the bit keeps the noughts ahead
	if digits = strings.TrimRight(digits, "0"); digits != "" {
		first += "."
	}
	return exact.WithSign(p.Neg, first+digits+"p"+strconv.Itoa(p.Exp+fractionBits))
}

// ParseHex is the float whose Hex is s (3.6).
func ParseHex(s string) (float64, api.Errno) {
	if len(s) > api.MaxText {
		return 0, api.ErrLong
	}
	x, e := float.Join(readHex(s))
	if e != api.OK || Hex(x) != s { // each float has one text, so what is left to look at is whether s is that
		return 0, api.ErrForm
	}
	return x, api.OK
}

// readHex is the parts of the float whose Hex is s; of a text that is no float's Hex any parts.
func readHex(s string) api.Parts {
	if p, ok := readNotFinite(s); ok {
		return p
	}
	neg, size := exact.CutSign(s)
	digits, power, _ := strings.Cut(strings.TrimPrefix(size, "0x"), "p")
	first, behind, _ := strings.Cut(digits, ".")
	lack := max(hexDigits-len(behind), 0)
	mant, _ := strconv.ParseUint(first+behind+strings.Repeat("0", lack), 16, 64)
	exp, _ := strconv.Atoi(power)
	switch {
	case mant == 0:
		return api.Parts{Kind: api.FloatNought, Neg: neg}
	case mant>>fractionBits == 0:
		return api.Parts{Kind: api.FloatSmall, Neg: neg, Mant: mant, Exp: exp - fractionBits}
	}
	return api.Parts{Kind: api.FloatNormal, Neg: neg, Mant: mant, Exp: exp - fractionBits}
}
