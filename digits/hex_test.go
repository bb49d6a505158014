package digits_test

import (
	"fmt"
	"math"
	"strings"
	"testing"

	"tontine/api"
	"tontine/digits"
)

// hexOf is Hex of a finite float, as the promise has it, by its bits.
func hexOf(x float64) string {
	bits := math.Float64bits(x)
	sign := ""
	if bits>>63 == 1 {
		sign = "-"
	}
	exp, fraction := int(bits>>52&0x7ff), bits&(1<<52-1)
	digits := strings.TrimRight(fmt.Sprintf("%013x", fraction), "0")
	switch {
	case exp == 0 && fraction == 0:
		return sign + "0x0p0"
	case exp == 0:
		return sign + "0x0." + digits + "p-1022"
	case fraction == 0:
		return fmt.Sprintf("%s0x1p%d", sign, exp-1023)
	}
	return fmt.Sprintf("%s0x1.%sp%d", sign, digits, exp-1023)
}

// 3.6: floats by sixteens, and back.
func TestHex(t *testing.T) {
	for _, x := range manyFloats(2000) {
		if isFinite(x) {
			want(t, "Hex of "+told(x), digits.Hex(x), hexOf(x))
			want(t, "ParseHex of "+hexOf(x), tell(digits.ParseHex(hexOf(x))), told(x))
		}
	}
	for wanted, x := range map[string]float64{
		"nan": none, "inf": inf, "-inf": -inf, "0x0p0": 0, "-0x0p0": minus, "0x1p0": 1, "-0x1p0": -1, "0x1p1": 2, "0x1p-1": 0.5, "-0x1.8p1": -3, "0x1.4p3": 10, "0x1.999999999999ap-4": 0.1, "0x1.0000000000001p0": math.Nextafter(1, 2),
		"0x0.0000000000001p-1022": least, "-0x0.0000000000001p-1022": -least, "0x0.8p-1022": leastNormal / 2, "0x0.000000000001p-1022": 16 * least, "0x0.fffffffffffffp-1022": math.Nextafter(leastNormal, 0), "0x1p-1022": leastNormal,
		"0x1.fffffffffffffp1023": greatest, "-0x1.fffffffffffffp1023": -greatest, "0x1p1023": math.Ldexp(1, 1023), "0x1.00000abcdef1p10": math.Float64frombits(1033<<52 | 0x00000abcdef10),
	} {
		want(t, "Hex of "+told(x), digits.Hex(x), wanted)
		want(t, "ParseHex of "+wanted, tell(digits.ParseHex(wanted)), told(x))
	}
	want(t, "another that is none", digits.Hex(math.Float64frombits(0xfff0000000000001)), "nan")
}

// 3.6: texts that are no float's Hex, each way in which they can be none.
func TestParseHexWrongForms(t *testing.T) {
	for _, s := range []string{"", "-", "0", "1", "0x", "0x1", "0xp0", "x1p0", "1p0", "p0", "0x1p", "0x1p-", "0x.8p0", "0x1.p0", "0x1.8", "0x1.8p", "1.8p0", "00x1p0", "0x01p0", "0x11p0", "0x2p0", "0xap0", "0x3.8p1",
		"+0x1p0", "--0x1p0", "0x-1p0", "0x1p+0", "0x1p-0", "0x1p00", "0x1p01", "0x1p--1", "0x1p1.0", "0x1p1p1", "0x1p0x1", "0x1p1024", "0x1p1025", "0x1p-1023", "0x1p-1074", "0x1p99999999999999999999", "0x1p-99999999999999999999", "0x1p9223372036854775807", "0x1p-9223372036854775808",
		"0X1p0", "0x1P0", "0x1.Ap0", "0x1.ap0 ", " 0x1p0", "0x1.a p0", "0x1.gp0", "0x1.8.8p0", "0x1..8p0", "0x1_0p0", "0x1.0_8p0", "0x1.8\x00p0",
		"0x1.0p0", "0x1.80p0", "0x1.9999999999990p0", "0x1.00000000000000p0", "0x1.00000000000008p0", "0x1.99999999999999p0", "0x1.000000000000000000001p0",
		"0x0p1", "0x0p-1022", "0x0.0p0", "0x0.0p-1022", "-0x0.0p0", "0x0p", "0x0.8p0", "0x0.8p-1021", "0x0.8p-1023", "0x0.80p-1022", "0x0.00000000000001p-1022", "0x0.0000000000000p-1022", "0x00p0", "0x0p-0",
		"0.1", "1e5", "Inf", "+inf", "--inf", "inf ", "infp0", "0xinf", "NaN", "-nan", "nan0", "\uff10x1p0"} {
		want(t, "ParseHex of "+s, tell(digits.ParseHex(s)), api.ErrForm.Error())
	}
}

// 3.6: of texts that are one byte away from a float's Hex just those are taken that are another float's.
func TestParseHexNear(t *testing.T) {
	look := func(s string) {
		x, e := digits.ParseHex(s)
		if e == api.OK && digits.Hex(x) != s || e != api.OK && (e != api.ErrForm || math.Float64bits(x) != 0) {
			t.Errorf("ParseHex of %q: %s, %v", s, told(x), e)
		}
	}
	for _, x := range []float64{0, minus, 1, -2, 0.1, 16, least, -leastNormal / 2, leastNormal, greatest, inf, none} {
		s := digits.Hex(x)
		for i := range len(s) {
			look(s[:i] + s[i+1:])
			for _, c := range "01fpx.-+ nA" {
				look(s[:i] + string(c) + s[i:])
				look(s[:i] + string(c) + s[i+1:])
			}
		}
	}
}

// 3.6: ErrLong comes ahead of ErrForm; of MaxText bytes none is a float's.
func TestParseHexLong(t *testing.T) {
	for _, s := range []string{strings.Repeat("x", api.MaxText+1), "0x1." + strings.Repeat("1", api.MaxText) + "p0", "0x1p0" + strings.Repeat(" ", api.MaxText)} {
		want(t, "ParseHex of too long a text", tell(digits.ParseHex(s)), api.ErrLong.Error())
	}
	most := api.MaxText
	for _, s := range []string{strings.Repeat("0", most), "0x" + strings.Repeat("0", most-2), "0x1." + strings.Repeat("0", most-6) + "p0", "0x1p" + strings.Repeat("0", most-4), "0x" + strings.Repeat("f", most-4) + "p0", "-0x1p-" + strings.Repeat("9", most-6), "inf" + strings.Repeat(" ", most-3)} {
		want(t, "ParseHex of a long text", tell(digits.ParseHex(s)), api.ErrForm.Error())
	}
}
