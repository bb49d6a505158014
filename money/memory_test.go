package money_test

import (
	"fmt"
	"math"
	"slices"
	"strings"
	"testing"
	"unsafe"

	"tontine/api"
	"tontine/money"
)

// listCalls are all calls that are given lists of exact numbers.
func listCalls() map[string]func(l []api.Ratio, n int) ([]int, api.Errno) {
	return map[string]func(l []api.Ratio, n int) ([]int, api.Errno){
		"Share":   func(l []api.Ratio, n int) ([]int, api.Errno) { return money.Share(n, l) },
		"Cascade": money.Cascade,
	}
}

// R4: what is handed in stays as it is, spare room too; R7: the same call tells the same, whatever the capacity.
func TestListsStay(t *testing.T) {
	for _, texts := range []string{"1 2 3", "1/2 0 7/3 5", "1/3 x 5", "-1 4", ""} {
		for name, call := range listCalls() {
			for _, n := range []int{-100, 0, 1, 6, 7} {
				l := list(texts)
				room := append(slices.Clone(l), repeated(of("spare"), 5)...)
				was := slices.Clone(room)
				first := tellList(call(room[:len(l)], n))
				if !slices.Equal(room, was) {
					t.Errorf("%s of %s changed its list: %v", name, texts, room)
				}
				want(t, name+" of another list", tellList(call(slices.Clip(l), n)), first)
			}
		}
	}
	room := []int{1, 2, 3, 77, 77}
	want(t, "Sum", tell(money.Sum(room[:3])), "6")
	want(t, "what was summed", fmt.Sprint(room), "[1 2 3 77 77]")
}

// R3: none may be nil or empty.
func TestNoneIsNone(t *testing.T) {
	for name, call := range listCalls() {
		for n := range 8 {
			want(t, name, tellList(call([]api.Ratio{}, n)), tellList(call(nil, n)))
		}
	}
}

// R4: an answer is its caller's own, spare room too.
func TestAnswersAreNewMemory(t *testing.T) {
	calls := map[string]func() ([]int, api.Errno){
		"Share":   func() ([]int, api.Errno) { return money.Share(100, list("1 2 3")) },
		"Parts":   func() ([]int, api.Errno) { return money.Parts(7, 3) },
		"Cascade": func() ([]int, api.Errno) { return money.Cascade(list("1/3 1/3 1/3"), api.RoundUp) },
	}
	for name, call := range calls {
		first, _ := call()
		second, e := call()
		wanted := tellList(second, e)
		first = first[:cap(first)]
		for i := range first {
			first[i] = -1
		}
		want(t, name+" beside another answer", tellList(second, e), wanted)
		want(t, name+" once more", tellList(call()), wanted)
	}
}

// R4: what a run tells is no piece of what it was given, or keeps: two answers share nothing.
func TestCarriesAreNewMemory(t *testing.T) {
	x := newRun(t, api.RoundHalfEven)
	a := of(strings.Clone("123456789/1234567891"))
	if _, e := x.Pay(a); e != api.OK {
		t.Fatal(e)
	}
	begins := map[*byte]string{unsafe.StringData(a.Num): "Num", unsafe.StringData(a.Den): "Den"}
	for i := range 3 {
		carry := x.Carry()
		want(t, "Carry", carry.Num+"/"+carry.Den, a.Num+"/"+a.Den)
		for _, s := range []string{carry.Num, carry.Den} {
			if of, ok := begins[unsafe.StringData(s)]; ok {
				t.Errorf("an answer is a piece of another text: %s", of)
			}
			begins[unsafe.StringData(s)] = fmt.Sprint("answer ", i)
		}
	}
}

// R7: asking changes nothing.
func TestAskingChangesNothing(t *testing.T) {
	x := newRun(t, api.RoundCeil)
	for _, s := range []string{"1/3", "5/7", "-9/2"} {
		if _, e := x.Pay(of(s)); e != api.OK {
			t.Fatal(e)
		}
		first := state(x)
		want(t, "the run, asked again", state(x), first)
	}
}

// P1: no call panics, and each ends, whatever it is given; R5: what is beside an error is nothing; R7: the same call tells the same.
func TestNoCallPanics(t *testing.T) {
	numbers := []int{0, 1, -1, 2, 3, 6, 7, 100, -100, most, -most, most + 1, -most - 1, api.MaxItems, api.MaxItems + 1, math.MaxInt, math.MinInt}
	ratios := list("0 1 -1 1/3 -5/2 7/1000000007 2/4 x 1/0 -0 " + nines(30) + " -1/" + nines(30) + " " + nines(api.MaxDigits) + " 1/" + nines(api.MaxDigits) + " " + ten(api.MaxDigits))
	ratios = append(ratios, api.Ratio{}, api.Ratio{Num: "\x00", Den: "\xff"})
	check := func(what string, call func() string) {
		t.Helper()
		first := call()
		want(t, what+" twice", call(), first)
		if strings.Contains(first, "beside") {
			t.Errorf("%s: %s", what, short(first))
		}
	}
	for _, a := range ratios {
		for _, n := range numbers {
			check("Amount", func() string { return tell(money.Amount(a, n)) })
			check("Share", func() string { return tellList(money.Share(n, []api.Ratio{a, a})) })
			check("Cascade", func() string { return tellList(money.Cascade([]api.Ratio{a, of("1/7"), a}, n)) })
			for _, m := range numbers {
				check("Times", func() string { return tell(money.Times(n, a, m)) })
			}
			x, e := money.New(n)
			if e != api.OK {
				continue
			}
			for _, b := range ratios {
				before := state(x)
				if m, e := x.Pay(b); e != api.OK && (m != 0 || state(x) != before) {
					t.Errorf("a Pay that failed: %d, %s", m, short(state(x)))
				}
				check("the run", func() string { return state(x) })
			}
		}
	}
	for _, n := range numbers {
		check("Show", func() string { return tellText(money.Show(n)) })
		check("Sum", func() string { return tell(money.Sum([]int{n, 1, n})) })
		for _, m := range numbers {
			check("Parts", func() string { return tellList(money.Parts(n, m)) })
			for _, way := range numbers {
				check("Step", func() string { return tell(money.Step(n, m, way)) })
			}
		}
	}
}
