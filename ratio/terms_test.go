package ratio_test

import (
	"math/big"
	"strconv"
	"strings"
	"testing"

	"tontine/api"
	"tontine/ratio"
)

// Promise 1.6.
func TestTerms(t *testing.T) {
	cases := map[string]string{
		"43/19": "2 3 1 4", "-3/2": "-2 2", "0": "0", "5": "5", "-5": "-5", "1/2": "0 2", "-1/2": "-1 2", "-1/3": "-1 1 2", "2/3": "0 1 2", "-2/3": "-1 3", "355/113": "3 7 16", "-355/113": "-4 1 6 16",
		"1/" + nines(api.MaxDigits): "0 " + nines(api.MaxDigits), "-1/" + ten(api.MaxDigits-1): "-1 1 " + nines(api.MaxDigits-1), "-" + nines(api.MaxDigits): "-" + nines(api.MaxDigits), nines(api.MaxDigits) + "/2": "4" + nines(api.MaxDigits-1) + " 2",
	}
	for a, expected := range cases {
		want(t, "Terms of "+shortened(a), toldList(ratio.Terms(of(a))), expected)
		want(t, "FromTerms of "+shortened(expected), told(ratio.FromTerms(strings.Fields(expected))), a)
	}
}

// Promise 1.6: the terms are what the Words say: from 1 on behind the first, the last one from 2 on, and they come to the number.
func TestTermsForm(t *testing.T) {
	r := random(31)
	for range 300 {
		a := randomRatio(r, sizes[r.Intn(10)])
		terms, e := ratio.Terms(a)
		if e != api.OK {
			t.Fatalf("Terms: %v", e)
		}
		value := new(big.Rat)
		for i := range terms {
			term, ok := new(big.Int).SetString(terms[len(terms)-1-i], 10)
			least := int64(1)
			if i == 0 {
				least = 2
			}
			if !ok || i < len(terms)-1 && term.Cmp(big.NewInt(least)) < 0 {
				t.Errorf("Terms of %v: %v", a, terms)
			}
			if i > 0 {
				value.Inv(value)
			}
			value.Add(value, new(big.Rat).SetInt(term))
		}
		want(t, "Terms", tellBig(value), told(a, api.OK))
	}
}

// row is the fraction whose continued fraction is n times 1, and 2.
func row(n int) api.Ratio {
	x, y := big.NewInt(2), big.NewInt(1)
	for range n {
		x, y = new(big.Int).Add(x, y), x
	}
	return fromBig(new(big.Rat).SetFrac(x, y))
}

// Promise 1.6: just MaxItems terms, and one more.
func TestTermsCount(t *testing.T) {
	want(t, "Terms of MaxItems", toldList(ratio.Terms(row(api.MaxItems-1))), strings.Repeat("1 ", api.MaxItems-1)+"2")
	want(t, "Terms of one more", toldList(ratio.Terms(row(api.MaxItems))), "error 3")
	want(t, "Terms of many", toldList(ratio.Terms(row(19000))), "error 3")
	minus, _ := ratio.Neg(row(api.MaxItems))
	want(t, "Terms of MaxItems below nought", toldList(ratio.Terms(minus)), "-2 2 "+strings.Repeat("1 ", api.MaxItems-3)+"2")
	minus, _ = ratio.Neg(row(api.MaxItems + 1))
	want(t, "Terms of one more below nought", toldList(ratio.Terms(minus)), "error 3")
	ones := strings.Fields(strings.Repeat("1 ", api.MaxItems))
	want(t, "FromTerms of MaxItems", told(ratio.FromTerms(ones)), told(row(api.MaxItems-2), api.OK))
}

// Promise 1.6.
func TestFromTerms(t *testing.T) {
	cases := map[string]string{
		"2 3 1 3 1": "43/19", "2 3 1 4": "43/19", "0": "0", "-7": "-7", "0 1": "1", "3 1": "4", "-1 1": "0", "-2 1": "-1", "0 2": "1/2", "-1 2": "-1/2", "5 1 1": "11/2", "1 1 1 1": "5/3", "-3 4 2": "-25/9",
		"":    "error 2",
		"x":   "error 2",
		"-0":  "error 2",
		"01":  "error 2",
		"+1":  "error 2",
		"1 0": "error 2", "1 -2": "error 2", "1 02": "error 2", "1 +2": "error 2", "1 2 0": "error 2", "1 2 x": "error 2", "1 -0": "error 2", "1 2 0 3": "error 2", "1/2": "error 2", "1.0": "error 2",
		// members are as long as they like
		nines(api.MaxDigits): nines(api.MaxDigits), ten(api.MaxDigits): "error 3", "-" + ten(api.MaxDigits): "error 3", "-" + ten(api.MaxDigits) + " 1": "-" + nines(api.MaxDigits), "-" + ten(api.MaxDigits) + " 2": "error 3", "-" + ten(api.MaxDigits) + " 1 1": "error 3", "-" + ten(api.MaxDigits+1) + " 1": "error 3", nines(api.MaxDigits) + " 1": "error 3", nines(api.MaxDigits-1) + "8 1": nines(api.MaxDigits),
		"0 " + nines(api.MaxDigits): "1/" + nines(api.MaxDigits), "0 " + ten(api.MaxDigits): "error 3", "0 1 " + nines(api.MaxDigits): "error 3", "0 1 " + nines(api.MaxDigits-1) + "8": nines(api.MaxDigits-1) + "8/" + nines(api.MaxDigits),
		nines(2 * api.MaxText): "error 3", "0 " + nines(2*api.MaxText): "error 3", "0 " + nines(2*api.MaxText) + " 1": "error 3",
		nines(2*api.MaxText) + "x": "error 2", nines(2*api.MaxText) + " x": "error 2", "0 " + nines(2*api.MaxText) + " 0": "error 2", "0" + nines(2*api.MaxText): "error 2", "5 0" + nines(2*api.MaxText): "error 2",
	}
	for terms, expected := range cases {
		want(t, "FromTerms of "+shortened(terms), told(ratio.FromTerms(strings.Fields(terms))), expected)
	}
	want(t, "FromTerms of nil", told(ratio.FromTerms(nil)), "error 2")
	want(t, "FromTerms of an empty member", told(ratio.FromTerms([]string{""})), "error 2")
	want(t, "FromTerms of an empty member behind", told(ratio.FromTerms([]string{"1", ""})), "error 2")
	many := make([]string, api.MaxItems)
	for i := range many {
		many[i] = strconv.Itoa(i + 10)
	}
	want(t, "FromTerms of many that are long", told(ratio.FromTerms(many)), "error 3")
	many[api.MaxItems-1] = "0"
	want(t, "FromTerms of many that are long, and one wrong", told(ratio.FromTerms(many)), "error 2")
}
