package ratio_test

import (
	"slices"
	"strings"
	"testing"
	"unsafe"

	"tontine/api"
	"tontine/ratio"
)

// R4: what is handed in stays as it is, spare room too, whether the call answers or refuses.
func TestSumKeepsItsList(t *testing.T) {
	for _, texts := range []string{"3 1/2 -7/3 1/6 0 1/2", "1/2 2/4 3", "1/3 x 5", ""} {
		room := make([]api.Ratio, 10)
		for i := range room {
			room[i] = of("spare")
		}
		for i, s := range strings.Fields(texts) {
			room[i] = of(s)
		}
		was := slices.Clone(room)
		first, e := ratio.Sum(room[:len(strings.Fields(texts))])
		if !slices.Equal(room, was) {
			t.Errorf("Sum of %s changed its list: %v", texts, room)
		}
		second, f := ratio.Sum(room[:len(strings.Fields(texts))])
		if first != second || e != f {
			t.Errorf("Sum of %s: %v, then %v", texts, first, second)
		}
	}
}

// R4.
func TestFromTermsKeepsItsList(t *testing.T) {
	for _, texts := range []string{"2 3 1 3 1", "-4 1", "7", "2 0 1", ""} {
		room := []string{"spare", "spare", "spare", "spare", "spare", "spare", "spare"}
		n := copy(room, strings.Fields(texts))
		was := slices.Clone(room)
		first, e := ratio.FromTerms(room[:n])
		if !slices.Equal(room, was) {
			t.Errorf("FromTerms of %s changed its list: %v", texts, room)
		}
		clear(room[:n])
		second, f := ratio.FromTerms(was[:n])
		if first != second || e != f {
			t.Errorf("FromTerms of %s: %v, then %v", texts, first, second)
		}
	}
}

// R4: what Terms answers is its caller's own, spare room too.
func TestTermsAnswersNewMemory(t *testing.T) {
	for _, s := range []string{"43/19", "-355/113", "5", "0"} {
		first, _ := ratio.Terms(of(s))
		expected := strings.Join(first, " ")
		second, _ := ratio.Terms(of(s))
		first = first[:cap(first)]
		for i := range first {
			first[i] = "changed"
		}
		want(t, "Terms beside others", strings.Join(second, " "), expected)
		want(t, "Terms once more", toldList(ratio.Terms(of(s))), expected)
	}
}

// R4: a text that is answered is no piece of one that was handed in.
func TestTextsAreNewMemory(t *testing.T) {
	within := func(part, all string) bool {
		p, a := uintptr(unsafe.Pointer(unsafe.StringData(part))), uintptr(unsafe.Pointer(unsafe.StringData(all)))
		return len(all) > 0 && p >= a && p < a+uintptr(len(all))
	}
	for _, s := range []string{"-123456789", "123456789", "-123456789/10", "123456789/10"} {
		a := of(strings.Clone(s))
		text, _ := ratio.Text(a)
		minus, _ := ratio.Neg(a)
		terms, _ := ratio.Terms(a)
		decimal, _ := ratio.Decimal(a, 0, api.RoundDown)
		sum, _ := ratio.Sum([]api.Ratio{a})
		round, _ := ratio.Round(a, a, api.RoundUp)
		for _, part := range append(terms, text, minus.Num, minus.Den, decimal, sum.Num, sum.Den, round.Num) {
			if within(part, a.Num) || a.Den != "1" && within(part, a.Den) {
				t.Errorf("%s, answered of %s, is a piece of it", part, s)
			}
		}
	}
}

// junk are texts of all kinds, right and wrong.
var junk = []string{"", "0", "1", "-1", "-", "2", "-0", "00", "x", "1/2", "0.5", "-7", "\x00", "9\xff", nines(30), "-" + nines(30), nines(api.MaxDigits), ten(api.MaxDigits), "-" + nines(api.MaxDigits), nines(3 * api.MaxDigits)}

// P1: no call panics, and each ends, whatever it is given; R5: what is beside an error is nothing; R7: the same call tells the same.
func TestNoCallPanics(t *testing.T) {
	numbers := []int{0, 1, -1, 2, 6, 7, 10, 4096, 4097, -4096, -4097, 1024, 1025, 1<<63 - 1, -1 << 63}
	var all []api.Ratio
	for _, num := range junk {
		for _, den := range junk {
			all = append(all, api.Ratio{Num: num, Den: den})
		}
	}
	r := random(51)
	check := func(what string, call func() string) {
		first := call()
		if second := call(); first != second {
			t.Errorf("%s: %s, then %s", what, shortened(first), shortened(second))
		}
		if strings.Contains(first, "a number beside") {
			t.Errorf("%s: %s", what, shortened(first))
		}
	}
	for _, a := range all {
		b, n, m := all[r.Intn(len(all))], numbers[r.Intn(len(numbers))], numbers[r.Intn(len(numbers))]
		for name, call := range calls(false) {
			check(name, func() string { return call(a) })
		}
		for name, call := range callsOfTwo() {
			check(name, func() string { return call(a, b) })
		}
		check("Pow", func() string { return told(ratio.Pow(a, n)) })
		check("Decimal", func() string { return toldText(ratio.Decimal(a, n, m)) })
		check("Round", func() string { return told(ratio.Round(a, b, n)) })
		check("Near", func() string { return told(ratio.Near(a, n)) })
		check("Of", func() string { return told(ratio.Of(n, m)) })
		check("Parse", func() string { return told(ratio.Parse(a.Num + "/" + a.Den)) })
		check("FromTerms", func() string { return told(ratio.FromTerms([]string{a.Num, a.Den, b.Num})) })
		check("Sum", func() string { return told(ratio.Sum([]api.Ratio{a, b, a})) })
	}
}
