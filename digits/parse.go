package digits

import (
	"strconv"
	"strings"

	"tontine/api"
	"tontine/exact"
	"tontine/float"
	"tontine/whole"
)

// Parse is the float that s comes to (3.2).
func Parse(s string) (float64, api.Errno) {
	return parse(s, float.Join, float.Round)
}

// Parse32 is the small float that s comes to (3.2).
func Parse32(s string) (float32, api.Errno) {
	return parse(s, float.Join32, float.Round32)
}

// parse is the float that s comes to, put together from its parts, or rounded from an exact number.
func parse[F float32 | float64](s string, join func(api.Parts) (F, api.Errno), round func(api.Ratio, int) (F, api.Errno)) (F, api.Errno) {
	if len(s) > api.MaxText {
		return 0, api.ErrLong
	}
	if p, ok := readNotFinite(s); ok {
		return join(p)
	}
	neg, size := exact.CutSign(s)
	d, ok := readDecimal(size)
	switch {
	case !ok:
		return 0, api.ErrForm
	case d.digits == "" || d.point < -farthest:
		return join(api.Parts{Kind: api.FloatNought, Neg: neg})
	case d.point > farthest:
		return join(api.Parts{Kind: api.FloatInfinite, Neg: neg})
	}
	return round(d.number(neg), api.RoundHalfEven)
}

// farthest: 10 to the farthest is beyond all finite floats of either size, and 10 to the -farthest is below half the least one above nought.
const farthest = 400

// readDecimal is the number that s says, or false, if s is no decimal text without a sign.
func readDecimal(s string) (decimal, bool) {
	digits, power, hasPower := strings.Cut(s, "e")
	ahead, behind, hasPoint := strings.Cut(digits, ".")
	_, size := exact.CutSign(power)
	if !exact.IsDigits(ahead) || hasPoint && !exact.IsDigits(behind) || hasPower && !exact.IsDigits(size) {
		return decimal{}, false
	}
	digits = strings.TrimLeft(ahead+behind, "0")
	return ofDigits(digits, exponent(power)-len(behind)), true
}

// mostPower is an exponent that is greater than all texts are long, so that what has it, or more, is farther than farthest, whatever its digits.
const mostPower = 1000000000

// exponent is the number that power says (0, if it is empty), but at most mostPower in size.
func exponent(power string) int {
	neg, digits := exact.CutSign(power)
	n, err := strconv.Atoi("0" + digits)
	if err != nil || n > mostPower {
		n = mostPower
	}
	if neg {
		return -n
	}
	return n
}

// mostDigits is more than any finite float, and any middle of two neighbours, has (768).
const mostDigits = 800

// number is an exact number that comes to the same float as d, below nought if neg. That is d itself; but of too many digits the first ones, and a 1 behind them in place of all others: no float and no middle of two lies between that and d, since these have fewer digits.
func (d decimal) number(neg bool) api.Ratio {
	digits := d.digits
	if len(digits) > mostDigits {
		digits = digits[:mostDigits] + "1"
	}
	num, den := whole.Parse(digits), whole.Of(1)
	if tens := d.point - len(digits); tens >= 0 {
		num = num.Mul(whole.Of(10).Pow(tens))
	} else {
		den = whole.Of(10).Pow(-tens)
	}
	r, _ := exact.WriteLowest(neg, num, den) // with farthest and mostDigits it is never too long
	return r
}
