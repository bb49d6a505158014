package ratio_test

import (
	"strings"
	"testing"

	"tontine/api"
	"tontine/ratio"
)

// Promise 1.5.
func TestText(t *testing.T) {
	for _, s := range []string{"0", "1", "-1", "3/2", "-3/2", "1/10", "123456789012345678901234567890", "-1/" + nines(api.MaxDigits), nines(api.MaxDigits) + "/" + ten(api.MaxDigits-1)} {
		want(t, "Text", toldText(ratio.Text(of(s))), s)
		want(t, "Parse", told(ratio.Parse(s)), s)
	}
}

// Promise 1.5.
func TestParse(t *testing.T) {
	cases := map[string]string{
		"0": "0", "7": "7", "-7": "-7", "10": "10", "0/5": "0", "4/6": "2/3", "-4/6": "-2/3", "6/3": "2", "5/1": "5", "-5/10": "-1/2",
		"0.50": "1/2", "-0.25": "-1/4", "0.0": "0", "0.000": "0", "1.0": "1", "-1.0": "-1", "12.0340": "6017/500", "-10.5": "-21/2", "0.00001": "1/100000", "-0.00001": "-1/100000", "100.00": "100", "3.14159265358979323846": "157079632679489661923/50000000000000000000",
	}
	for s, expected := range cases {
		want(t, "Parse of "+s, told(ratio.Parse(s)), expected)
	}
}

// Promise 1.5, R6: what is taken not at all.
func TestParseRefuses(t *testing.T) {
	for _, s := range []string{
		"", "-", "+", "/", ".", "-/", "-.", "+1", "-0", "--1", "01", "-01", "00", "007", " 1", "1 ", "1\n", "1e5", "1_000", "0x1", "a", "\u0661", "1,5",
		"1/", "/1", "1/-2", "1/+2", "1/02", "1/00", "1/0x", "1//2", "1/2/3", "01/2", "-0/1", "-0/0", "-0/5", "x/0", "/0", "1.0/0", "-/0", "+1/0", "01/0", "1/-0", "1/0/0", "1/0.0", "0/00", "1.5/2", "1/2.5",
		".5", "5.", "-.5", "-5.", "01.5", "00.5", "-00.5", "-0.0", "-0.000", "1.5.2", "1..5", "1.-5", "1.+5", "1.5x", "+0.5", "-0.", "1. 5", "--0.5", "1.5-", "0.5/0",
	} {
		want(t, "Parse of "+s, told(ratio.Parse(s)), "error 2")
	}
	for _, s := range []string{"3/0", "0/0", "-3/0", nines(5000) + "/0"} {
		want(t, "Parse of "+shortened(s), told(ratio.Parse(s)), "error 4")
	}
}

// Promise 1.5, R2, R3: texts of just MaxText bytes and of one more; numbers of just MaxDigits digits and of one more.
func TestParseLength(t *testing.T) {
	zeros := func(n int) string { return strings.Repeat("0", n) }
	half := (api.MaxText - 2) / 2
	cases := []struct{ what, text, want string }{
		{"noughts behind a point", "0." + zeros(api.MaxText-2), "0"},
		{"one more", "0." + zeros(api.MaxText-1), "error 3"},
		{"- and noughts behind a point", "-0." + zeros(api.MaxText-3), "error 2"},
		{"- and one more", "-0." + zeros(api.MaxText-2), "error 3"},
		{"a half", "0.5" + zeros(api.MaxText-3), "1/2"},
		{"no form", strings.Repeat("x", api.MaxText), "error 2"},
		{"no form, one more", strings.Repeat("x", api.MaxText+1), "error 3"},
		{"noughts ahead", zeros(api.MaxText), "error 2"},
		{"a long whole number", nines(api.MaxText), "error 3"},
		{"a long whole number, and no form", nines(api.MaxText-1) + "x", "error 2"},
		{"a long decimal", "0." + zeros(api.MaxText-3) + "1", "error 3"},
		{"a long fraction that is short", "3" + zeros(half) + "/2" + zeros(half-1), "15"},
		{"a long fraction that is short, below nought", "-3" + zeros(half-1) + "/2" + zeros(half-1), "-3/2"},
		{"a long fraction that is long", nines(half) + "/1" + zeros(half-1), "error 3"},
		{"a long one by nought", nines(api.MaxText-2) + "/0", "error 4"},
		{"most digits", nines(api.MaxDigits), nines(api.MaxDigits)},
		{"most digits below nought", "-" + nines(api.MaxDigits), "-" + nines(api.MaxDigits)},
		{"one more digit", ten(api.MaxDigits), "error 3"},
		{"most digits below", "1/" + nines(api.MaxDigits), "1/" + nines(api.MaxDigits)},
		{"one more digit below", "1/" + ten(api.MaxDigits), "error 3"},
		{"most places", "0." + zeros(api.MaxDigits-2) + "1", "1/" + ten(api.MaxDigits-1)},
		{"one more place", "0." + zeros(api.MaxDigits-1) + "1", "error 3"},
		{"one more place, but noughts", "0." + zeros(api.MaxDigits-2) + "10", "1/" + ten(api.MaxDigits-1)},
		{"one more digit that is not needed", "2" + zeros(api.MaxDigits) + "/4", "5" + zeros(api.MaxDigits-1)},
	}
	for _, c := range cases {
		want(t, c.what, told(ratio.Parse(c.text)), c.want)
	}
}

// Promise 1.12: there and back.
func TestThereAndBack(t *testing.T) {
	r, must := random(21), mustRatio(t)
	check := func(a api.Ratio) {
		t.Helper()
		text, e := ratio.Text(a)
		if e != api.OK || must(ratio.Parse(text)) != a {
			t.Errorf("Parse of %s, %v: not what it was", shortened(text), e)
		}
		terms, e := ratio.Terms(a)
		if e == api.OK && must(ratio.FromTerms(terms)) != a {
			t.Errorf("FromTerms of %s: not what it was", shortened(strings.Join(terms, " ")))
		}
	}
	for _, a := range some() {
		check(a)
	}
	for _, digits := range append(sizes, api.MaxDigits) {
		for range 20 {
			check(randomRatio(r, digits))
		}
	}
}
