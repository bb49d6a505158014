package ratio

import (
	"strings"

	"tontine/api"
	"tontine/exact"
	"tontine/whole"
)

// Parse is the exact number that s says (1.5).
func Parse(s string) (api.Ratio, api.Errno) {
	if len(s) > api.MaxText {
		return api.Ratio{}, api.ErrLong
	}
	f, e := parseText(s)
	if e != api.OK {
		return api.Ratio{}, e
	}
	return f.Ratio()
}

func parseText(s string) (exact.Fraction, api.Errno) {
	if above, below, ok := strings.Cut(s, "/"); ok {
		return parseQuotient(above, below)
	}
	if above, behind, ok := strings.Cut(s, "."); ok {
		return parseDecimal(above, behind)
	}
	return parseQuotient(s, "1")
}

func parseQuotient(above, below string) (exact.Fraction, api.Errno) {
	if !exact.IsWhole(above) || !exact.IsNatural(below) {
		return exact.Fraction{}, api.ErrForm
	}
	if below == "0" {
		return exact.Fraction{}, api.ErrZero
	}
	neg, digits := exact.CutSign(above)
	return exact.Lowest(neg, whole.Parse(digits), whole.Parse(below)), api.OK
}

func parseDecimal(above, behind string) (exact.Fraction, api.Errno) {
	neg, digits := exact.CutSign(above)
	if !exact.IsNatural(digits) || !exact.IsDigits(behind) {
		return exact.Fraction{}, api.ErrForm
	}
	behind = strings.TrimRight(behind, "0")
	f := exact.Lowest(neg, whole.Parse(digits+behind), whole.Of(10).Pow(len(behind)))
	if neg && f.Num.IsZero() {
		return exact.Fraction{}, api.ErrForm
	}
	return f, api.OK
}
