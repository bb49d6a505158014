package digits_test

import (
	"math"
	"testing"

	"tontine/digits"
)

// 3.1: the digits and n, of floats of all kinds, held against a search among all numbers of few digits.
func TestDigits(t *testing.T) {
	for _, x := range manyFloats(300) {
		got := tellDigits(digits.Digits(x))
		if x == 0 || !isFinite(x) {
			want(t, "Digits of "+told(x), got, tellDigits("", 0))
			continue
		}
		size := math.Abs(x)
		want(t, "Digits of "+told(x), got, tellDigits(digitsOf(ratOf(size), comesTo(size))))
	}
}

// 3.1: powers of two, all of them, whose neighbours are not as far apart below as above, and the neighbours.
func TestDigitsOfPowers(t *testing.T) {
	for e := -1074; e <= 1023; e++ {
		two := math.Ldexp(1, e)
		for _, x := range []float64{two, math.Nextafter(two, inf)} {
			want(t, "Digits of "+told(x), tellDigits(digits.Digits(x)), tellDigits(digitsOf(ratOf(x), comesTo(x))))
		}
	}
}

// 3.1: digits of floats that tell the rules apart.
func TestDigitsByHand(t *testing.T) {
	for _, c := range []struct {
		x      float64
		digits string
		n      int
	}{
		{least, "5", -323}, {2 * least, "1", -322}, {3 * least, "15", -322}, {greatest, "17976931348623157", 309},
		{leastNormal, "22250738585072014", -307}, {math.Nextafter(leastNormal, 0), "2225073858507201", -307},
		{1, "1", 1}, {100, "1", 3}, {0.05, "5", -1}, {-2.5, "25", 1}, {1e23, "1", 24}, {9007199254740993, "9007199254740992", 16},
		{1125899906842624.25, "11258999068426242", 16}, {1125899906842624.75, "11258999068426248", 16}, // halfway between two of 17 digits: to the even one
		{math.Ldexp(1, -44), "5684341886080802", -13},   // nearer would be 5684341886080801, which comes to the float below
		{math.Ldexp(1, -24), "5960464477539063", -7},    // halfway: 59604644775390625
		{9007199254740992 * 2, "18014398509481984", 17}, // 2^54
		{math.Ldexp(1, 89), "6189700196426902", 27},     // half way down is taken, since it is even
		{math.Ldexp(1, 122), "5316911983139664", 37},    // the 16 digits that end with 3 come to the float below
		{math.Ldexp(1, -1022) * 4, "8900295434028806", -307},
	} {
		want(t, "Digits of "+told(c.x), tellDigits(digits.Digits(c.x)), tellDigits(c.digits, c.n))
		want(t, "Digits of -"+told(c.x), tellDigits(digits.Digits(-c.x)), tellDigits(c.digits, c.n))
	}
}

// 3.1: the text, by the digits and n.
func TestText(t *testing.T) {
	for _, x := range manyFloats(200) {
		if x == 0 || !isFinite(x) {
			continue
		}
		size := math.Abs(x)
		wanted := textFrom(digitsOf(ratOf(size), comesTo(size)))
		if x < 0 {
			wanted = "-" + wanted
		}
		want(t, "Text of "+told(x), digits.Text(x), wanted)
	}
}

// 3.1: each form of a text, and where one goes over into the next.
func TestTextForms(t *testing.T) {
	for wanted, x := range map[string]float64{
		"nan": none, "inf": inf, "-inf": -inf, "0": 0, "-0": minus,
		"1": 1, "7": 7, "-7": -7, "10": 10, "1234567": 1234567, "100000000000000000000": 1e20, // n from 1 to 21
		"123456789012345680000": 123456789012345680000, "999999999999999900000": 999999999999999900000,
		"1e21": 1e21, "1.2345678901234568e21": 1234567890123456800000, "1e22": 1e22, "-1e300": -1e300, // n = 22
		"12.5": 12.5, "1.5": 1.5, "-1234567.125": -1234567.125, "9007199254740992": 9007199254740992, // k = n and beside it
		"900719925474099.2": 900719925474099.2,
		"0.5":               0.5, "0.05": 0.05, "0.000001": 0.000001, "0.0000012345678": 12345678e-13, "-0.000009": -0.000009, // n from 0 to -5
		"1e-7": 1e-7, "1.5e-7": 1.5e-7, "-9.999999999999997e-7": -9.999999999999997e-7, // n = -6
		"5e-324": least, "-5e-324": -least, "1e-323": 2 * least, "2.2250738585072014e-308": leastNormal, "2.225073858507201e-308": math.Nextafter(leastNormal, 0),
		"1.7976931348623157e308": greatest, "-1.7976931348623157e308": -greatest,
	} {
		want(t, "Text of "+told(x), digits.Text(x), wanted)
	}
	want(t, "another that is none", digits.Text(math.Float64frombits(0xfff0000000000001)), "nan")
}

// 3.1: texts of small floats: as few digits as lead back to the small one.
func TestText32(t *testing.T) {
	for _, x := range manySmall(2000) {
		if x == 0 || !isFinite(float64(x)) {
			continue
		}
		size := float32(math.Abs(float64(x)))
		wanted := textFrom(digitsOf(ratOf(float64(size)), comesTo32(size)))
		if x < 0 {
			wanted = "-" + wanted
		}
		want(t, "Text32 of "+told32(x), digits.Text32(x), wanted)
	}
	for wanted, x := range map[string]float32{
		"nan": float32(none), "inf": float32(inf), "-inf": float32(-inf), "0": 0, "-0": float32(minus), "0.1": 0.1, "16777216": 16777216,
		"1e-45": least32, "-1e-45": -least32, "3e-45": 2 * least32, "1.1754944e-38": leastNormal32, "1.1754942e-38": math.Nextafter32(leastNormal32, 0),
		"3.4028235e38": greatest32, "-3.4028235e38": -greatest32, "100000000000000000000": 1e20, "1e21": 1e21, "0.000001": 1e-6, "1e-7": 1e-7, "9.536743e-7": 0x1p-20,
		"4194304.5": 4194304.5, "1048576.1": 1048576.125, "2097152.2": 2097152.25, "2097152.8": 2097152.75, // the last two are halfway between two: to the even one
	} {
		want(t, "Text32 of "+told32(x), digits.Text32(x), wanted)
	}
}
