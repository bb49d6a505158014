package interest_test

import (
	"fmt"
	"math"
	"slices"
	"strings"
	"testing"

	"tontine/api"
	"tontine/interest"
)

// R4: what is handed in stays as it is, spare room too; R7: the same call tells the same, whatever the capacity.
func TestListsStay(t *testing.T) {
	for _, text := range []string{"0:-100 1:110", "0:0 5:3 6:-4 130:0", "0:1 0:1", "5:1000000000000001", ""} {
		for name, call := range flowCalls() {
			l := flows(text)
			room := append(slices.Clone(l), repeated(api.Flow{Time: 77, Amount: 77}, 5)...)
			was := slices.Clone(room)
			first := call(room[:len(l)])
			if !slices.Equal(room, was) {
				t.Errorf("%s of %s changed its list: %v", name, text, room)
			}
			want(t, name+" of another list", call(slices.Clip(l)), first)
		}
	}
	for name, call := range curveCalls() {
		room := []int{500000, 0, -77, 1000000, 77, 77}
		first := tellList(call(room[:4]))
		want(t, "what was handed to "+name, fmt.Sprint(room), "[500000 0 -77 1000000 77 77]")
		want(t, name+" of another list", tellList(call([]int{500000, 0, -77, 1000000})), first)
	}
}

// R3: none may be nil or empty.
func TestNoneIsNone(t *testing.T) {
	for name, call := range flowCalls() {
		want(t, name, call([]api.Flow{}), call(nil))
	}
}

// R4: an answer is its caller's own, spare room too.
func TestAnswersAreNewMemory(t *testing.T) {
	for name, call := range curveCalls() {
		rates := []int{500000, 0, -77, 1000000}
		first, _ := call(rates)
		second, e := call(rates)
		wanted := tellList(second, e)
		first = first[:cap(first)]
		for i := range first {
			first[i] = api.Ratio{}
		}
		want(t, name+" beside another answer", tellList(second, e), wanted)
		want(t, name+" once more", tellList(call(rates)), wanted)
	}
	first, _ := interest.Loan(1000, 500000, 5, api.RoundHalfEven)
	second, e := interest.Loan(1000, 500000, 5, api.RoundHalfEven)
	wanted := tellRows(second, e)
	clear(first[:cap(first)])
	want(t, "Loan beside another answer", tellRows(second, e), wanted)
	want(t, "Loan once more", tellRows(interest.Loan(1000, 500000, 5, api.RoundHalfEven)), wanted)
}

// P1: no call panics, and each ends, whatever it is given; R5: what is beside an error is nothing; R7: the same call tells the same.
func TestNoCallPanics(t *testing.T) {
	numbers := []int{0, 1, -1, 6, 7, -unit, -unit + 1, api.MaxRate, api.MaxRate + 1, longest, longest + 1, 366, 367, most, most + 1, -most, -most - 1, math.MaxInt, math.MinInt}
	check := func(what string, call func() string) {
		t.Helper()
		first := call()
		want(t, what+" twice", call(), first)
		if strings.Contains(first, "beside") {
			t.Errorf("%s: %s", what, short(first))
		}
	}
	for _, a := range numbers {
		for name, call := range curveCalls() {
			check(name, func() string { return tellList(call([]int{a, 1, a})) })
		}
		for _, b := range numbers {
			check("Grown", func() string { return tell(interest.Grown(a, b)) })
			check("Discounted", func() string { return tell(interest.Discounted(a, b)) })
			check("Effective", func() string { return tell(interest.Effective(a, b)) })
			check("Nominal", func() string { return tellSpan(interest.Nominal(a, b)) })
			for _, x := range annuities() {
				check(x.name, func() string { return tell(x.call(a, b, a > b)) })
			}
			for name, call := range flowCalls() {
				check(name, func() string { return call([]api.Flow{{Time: 0, Amount: a}, {Time: 5, Amount: b}}) })
				check(name, func() string { return call([]api.Flow{{Time: a, Amount: b}, {Time: b, Amount: a}}) })
			}
			check("Duration", func() string { return tellTwo(interest.Duration([]api.Flow{{Time: 3, Amount: a}}, b)) })
			for _, c := range numbers {
				check("Present", func() string { return tell(interest.Present([]api.Flow{{Time: 3, Amount: c}}, a, b)) })
				check("Immune", func() string { return tellTwo(interest.Immune(a, b, c)) })
				for _, way := range []int{api.RoundUp, api.RoundHalfEven, 0, math.MaxInt} {
					check("Loan", func() string { return tellRows(interest.Loan(a, b, c, way)) })
				}
			}
		}
	}
}
