package ratio_test

import (
	"math"
	"math/big"
	"strings"
	"testing"

	"tontine/api"
	"tontine/ratio"
)

// Promise 1.1, R1.
func TestCheck(t *testing.T) {
	most, more := nines(api.MaxDigits), ten(api.MaxDigits)
	cases := []struct {
		num, den string
		want     api.Errno
	}{
		{"0", "1", api.OK}, {"1", "1", api.OK}, {"-3", "2", api.OK}, {"43", "19", api.OK}, {"10", "9", api.OK},
		{most, "1", api.OK}, {"-" + most, "1", api.OK}, {"1", most, api.OK}, {"-" + most, ten(api.MaxDigits - 1), api.OK},
		{"", "1", api.ErrShape}, {"-", "1", api.ErrShape}, {"-0", "1", api.ErrShape}, {"+1", "1", api.ErrShape}, {"01", "1", api.ErrShape}, {"00", "1", api.ErrShape}, {"-01", "1", api.ErrShape}, {"--1", "1", api.ErrShape}, {"1-", "1", api.ErrShape}, {" 1", "1", api.ErrShape}, {"1.0", "1", api.ErrShape}, {"1a", "1", api.ErrShape}, {"\u0661", "1", api.ErrShape}, {"1\x00", "1", api.ErrShape}, {"1/2", "1", api.ErrShape}, {"/", "1", api.ErrShape}, {":", "1", api.ErrShape},
		{"1", "", api.ErrShape}, {"1", "0", api.ErrShape}, {"1", "-2", api.ErrShape}, {"1", "-", api.ErrShape}, {"1", "-0", api.ErrShape}, {"1", "02", api.ErrShape}, {"1", "+2", api.ErrShape}, {"1", "2 ", api.ErrShape}, {"0", "0", api.ErrShape}, {"", "", api.ErrShape},
		{"0", "2", api.ErrShape}, {"2", "4", api.ErrShape}, {"-6", "3", api.ErrShape}, {"7", "7", api.ErrShape}, {most, "3", api.ErrShape}, {"3", most, api.ErrShape}, {most, most, api.ErrShape},
		{more, "1", api.ErrLong}, {"-" + more, "1", api.ErrLong}, {"1", more, api.ErrLong}, {more, more, api.ErrLong},
		// which of two comes first
		{more, "2", api.ErrLong}, {"2", more, api.ErrLong},
		{more, "0", api.ErrShape}, {more, "x", api.ErrShape}, {"x", more, api.ErrShape}, {"0", more, api.ErrShape}, {"0" + more, "1", api.ErrShape}, {more + "x", "1", api.ErrShape}, {"-0", more, api.ErrShape},
	}
	for _, c := range cases {
		if got := ratio.Check(api.Ratio{Num: c.num, Den: c.den}); got != c.want {
			t.Errorf("Check of %s and %s: %v, want %v", shortened(c.num), shortened(c.den), got, c.want)
		}
	}
}

// Promise 1.1.
func TestOf(t *testing.T) {
	want(t, "Of 6 by -4", told(ratio.Of(6, -4)), "-3/2")
	want(t, "Of 0 by -4", told(ratio.Of(0, -4)), "0")
	for _, p := range []int{0, 1, math.MinInt, math.MaxInt} {
		want(t, "Of by 0", told(ratio.Of(p, 0)), "error 4")
	}
	numbers := []int{0, 1, -1, 2, -2, 7, 12, -18, math.MinInt, math.MinInt + 1, math.MaxInt, math.MaxInt - 1, 1 << 62, -1 << 62}
	for _, p := range numbers {
		for _, q := range numbers {
			if q != 0 {
				want(t, "Of", told(ratio.Of(p, q)), tellBig(big.NewRat(1, 1).SetFrac(big.NewInt(int64(p)), big.NewInt(int64(q)))))
			}
		}
	}
}

// calls are all calls of one exact number, with what else they are given right, or wrong too.
func calls(wrongToo bool) map[string]func(a api.Ratio) string {
	power, step, mode, places, most := 2, of("1/3"), api.RoundFloor, 2, 5
	if wrongToo {
		power, step, mode, places, most = ratio.MaxPower+1, of("0"), 9, -1, 0
	}
	return map[string]func(a api.Ratio) string{
		"Neg":     func(a api.Ratio) string { return told(ratio.Neg(a)) },
		"Pow":     func(a api.Ratio) string { return told(ratio.Pow(a, power)) },
		"Sign":    func(a api.Ratio) string { return toldInt(ratio.Sign(a)) },
		"Round":   func(a api.Ratio) string { return told(ratio.Round(a, step, mode)) },
		"Decimal": func(a api.Ratio) string { return toldText(ratio.Decimal(a, places, mode)) },
		"Text":    func(a api.Ratio) string { return toldText(ratio.Text(a)) },
		"Terms":   func(a api.Ratio) string { return toldList(ratio.Terms(a)) },
		"Near":    func(a api.Ratio) string { return told(ratio.Near(a, most)) },
		"Sum":     func(a api.Ratio) string { return told(ratio.Sum([]api.Ratio{of("1/2"), a, of("x")})) },
	}
}

// callsOfTwo are all calls of two exact numbers.
func callsOfTwo() map[string]func(a, b api.Ratio) string {
	return map[string]func(a, b api.Ratio) string{
		"Add":     func(a, b api.Ratio) string { return told(ratio.Add(a, b)) },
		"Sub":     func(a, b api.Ratio) string { return told(ratio.Sub(a, b)) },
		"Mul":     func(a, b api.Ratio) string { return told(ratio.Mul(a, b)) },
		"Div":     func(a, b api.Ratio) string { return told(ratio.Div(a, b)) },
		"Cmp":     func(a, b api.Ratio) string { return toldInt(ratio.Cmp(a, b)) },
		"Round":   func(a, b api.Ratio) string { return told(ratio.Round(a, b, api.RoundUp)) },
		"Between": func(a, b api.Ratio) string { return told(ratio.Between(a, b)) },
		"Sum":     func(a, b api.Ratio) string { return told(ratio.Sum([]api.Ratio{a, b})) },
	}
}

// wrongs are wrong exact numbers, with R1's error.
var wrongs = map[string]api.Errno{
	"x": api.ErrShape, "-0": api.ErrShape, "0/2": api.ErrShape, "2/4": api.ErrShape, "1/0": api.ErrShape, "1/-2": api.ErrShape,
	"1" + strings.Repeat("0", api.MaxDigits):         api.ErrLong,
	"1/1" + strings.Repeat("0", api.MaxDigits):       api.ErrLong,
	"0/1" + strings.Repeat("0", api.MaxDigits):       api.ErrShape,
	"-1" + strings.Repeat("0", api.MaxDigits) + "/2": api.ErrLong,
}

// Promise 1.1, R1, R5: a wrong number is told ahead of all else, and nothing beside it.
func TestWrongNumbers(t *testing.T) {
	for text, e := range wrongs {
		for _, wrongToo := range []bool{false, true} {
			for name, call := range calls(wrongToo) {
				expected := e.Error()
				if name == "Sign" {
					expected = "0 " + expected
				}
				want(t, name+" of a wrong number", call(of(text)), expected)
			}
		}
	}
}

// Promise 1.1, R1: of two wrong numbers the first one's error is told.
func TestWrongNumbersOfTwo(t *testing.T) {
	for name, call := range callsOfTwo() {
		beside := ""
		if name == "Cmp" {
			beside = "0 "
		}
		for text, e := range wrongs {
			for _, right := range []string{"0", "5", "-1/2"} {
				want(t, name+" of a wrong number and a right one", call(of(text), of(right)), beside+e.Error())
				want(t, name+" of a right number and a wrong one", call(of(right), of(text)), beside+e.Error())
			}
			for other := range wrongs {
				want(t, name+" of two wrong numbers", call(of(text), of(other)), beside+e.Error())
			}
		}
	}
}

// Promise 1.1, R3: lists of just MaxItems members, and one more.
func TestListsLength(t *testing.T) {
	l := make([]api.Ratio, api.MaxItems+1)
	for i := range l {
		l[i] = of("1/3")
	}
	want(t, "Sum of MaxItems", told(ratio.Sum(l[:api.MaxItems])), "4096/3")
	want(t, "Sum of more", told(ratio.Sum(l)), "error 3")
	l[0] = of("x")
	want(t, "Sum of more, one wrong", told(ratio.Sum(l)), "error 3")
	want(t, "Sum of MaxItems, one wrong", told(ratio.Sum(l[:api.MaxItems])), "error 5")
	l[0] = of("1/3")
	l[api.MaxItems-1] = of("1" + strings.Repeat("0", api.MaxDigits))
	want(t, "Sum of MaxItems, the last one long", told(ratio.Sum(l[:api.MaxItems])), "error 3")
	want(t, "Sum of nil", told(ratio.Sum(nil)), "0")
	want(t, "Sum of none", told(ratio.Sum([]api.Ratio{})), "0")

	terms := strings.Split(strings.Repeat("1 ", api.MaxItems)+"1", " ")
	if _, e := ratio.FromTerms(terms[:api.MaxItems]); e != api.OK {
		t.Errorf("FromTerms of MaxItems: %v", e)
	}
	want(t, "FromTerms of more", told(ratio.FromTerms(terms)), "error 3")
	terms[0] = "x"
	want(t, "FromTerms of more, one wrong", told(ratio.FromTerms(terms)), "error 3")
	want(t, "FromTerms of MaxItems, one wrong", told(ratio.FromTerms(terms[:api.MaxItems])), "error 2")
}

// The limits of DOC.md.
func TestLimits(t *testing.T) {
	got := []int{ratio.MaxPower, ratio.MaxPlaces, ratio.MaxNear}
	for i, limit := range []int{4096, 1024, 4096} {
		if got[i] != limit {
			t.Errorf("limit %d: %d, want %d", i, got[i], limit)
		}
	}
}
