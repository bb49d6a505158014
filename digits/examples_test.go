package digits_test

import (
	"testing"

	"tontine/api"
	"tontine/digits"
	"tontine/float"
)

// The chapter's Examples 1 to 4.

func TestExample1(t *testing.T) {
	for wanted, x := range map[string]float64{"0.1": 0.1, "1e21": 1e21, "123456789012345680000": 123456789012345680000, "1e-7": 1e-7, "0.000001": 0.000001, "5e-324": 5e-324, "-0": minus} {
		want(t, "Text of "+wanted, digits.Text(x), wanted)
	}
	want(t, "Digits", tellDigits(digits.Digits(1125899906842624.25)), tellDigits("11258999068426242", 16))
	want(t, "Text32 of 0.1", digits.Text32(0.1), "0.1")
	want(t, "Text of that, widened", digits.Text(float.Widen(0.1)), "0.10000000149011612")
}

func TestExample2(t *testing.T) {
	for s, x := range map[string]float64{"1e400": inf, "-0.0": minus, "2e-324": 0, "3e-324": 5e-324, "9007199254740993": 9007199254740992} {
		want(t, "Parse of "+s, tell(digits.Parse(s)), told(x))
	}
	for _, s := range []string{".5", "5.", "1e", "+1", ""} {
		want(t, "Parse of "+s, tell(digits.Parse(s)), api.ErrForm.Error())
	}
	want(t, "Parse32", tell32(digits.Parse32("16777217.0000001")), told32(16777218))
}

func TestExample3(t *testing.T) {
	want(t, "Exact of 0.1", tellText(digits.Exact(0.1)), "0.1000000000000000055511151231257827021181583404541015625")
	want(t, "Fixed of 2.5", tellText(digits.Fixed(2.5, 0, api.RoundHalfEven)), "2")
	want(t, "Fixed of -0.001, half up", tellText(digits.Fixed(-0.001, 2, api.RoundHalfUp)), "0.00")
	want(t, "Fixed of -0.001, floor", tellText(digits.Fixed(-0.001, 2, api.RoundFloor)), "-0.01")
	want(t, "Scientific of 123456", tellText(digits.Scientific(123456, 3, api.RoundHalfUp)), "1.23e5")
	want(t, "Scientific of 9.996", tellText(digits.Scientific(9.996, 3, api.RoundHalfUp)), "1.00e1")
	for _, way := range ways {
		want(t, "Scientific of 0", tellText(digits.Scientific(0, 2, way)), "0.0e0")
	}
}

func TestExample4(t *testing.T) {
	for wanted, x := range map[string]float64{"0x1p0": 1, "0x1.999999999999ap-4": 0.1, "0x0.0000000000001p-1022": 5e-324} {
		want(t, "Hex of "+told(x), digits.Hex(x), wanted)
	}
	want(t, "ParseHex of 0x1.0p0", tell(digits.ParseHex("0x1.0p0")), api.ErrForm.Error())
}
