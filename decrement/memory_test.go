package decrement_test

import (
	"fmt"
	"math"
	"slices"
	"strings"
	"testing"

	"tontine/api"
	"tontine/decrement"
)

// room is a copy of a list with spare room that holds something, and a way to tell all of that.
func room[T any](l []T, other T) ([]T, func() string) {
	all := append(slices.Clone(l), other, other, other)
	return all[:len(l)], func() string { return fmt.Sprint(all) }
}

// roomyCauses is a copy of c whose lists have spare room with something in it, and a way to tell all of that.
func roomyCauses(c api.Causes) (api.Causes, func() string) {
	lists := make([][]int, len(c.Rates))
	var tells []func() string
	for cause, rates := range c.Rates {
		list, tell := room(rates, 77)
		lists[cause], tells = list, append(tells, tell)
	}
	lists, tell := room(lists, []int{88})
	return api.Causes{First: c.First, Rates: lists}, func() string { return tell() + tellAll(tells) }
}

// roomyLeaves is likewise a copy of payments.
func roomyLeaves(l []api.Leave) ([]api.Leave, func() string) {
	paid := slices.Clone(l)
	var tells []func() string
	for n := range paid {
		gone, tell := room(paid[n].Gone, 77)
		paid[n].Gone, tells = gone, append(tells, tell)
	}
	paid, tell := room(paid, api.Leave{Live: -7})
	return paid, func() string { return tell() + tellAll(tells) }
}

func tellAll(tells []func() string) string {
	var all strings.Builder
	for _, tell := range tells {
		all.WriteString(tell())
	}
	return all.String()
}

// R4: what is handed in stays as it is, spare room too; R7: the same call tells the same, whatever the capacity.
func TestArgumentsStay(t *testing.T) {
	look := func(what string, c api.Causes, paid []api.Leave) {
		other, tellOther := roomyCauses(c)
		otherPaid, tellPaid := roomyLeaves(paid)
		tell := func() string { return tellOther() + tellPaid() }
		was := tell()
		for _, wrong := range []bool{false, true} {
			for name, call := range callsOf(wrong) {
				want(t, name+" of other lists", call(other), call(c))
			}
			for name, call := range callsAt(wrong) {
				want(t, name+" of other lists", call(other, c.First), call(c, c.First))
			}
		}
		for cause := range c.Rates {
			want(t, "Alone of other lists", tellCauses(decrement.Alone(other, cause)), tellCauses(decrement.Alone(c, cause)))
			want(t, "Without of other lists", tellCauses(decrement.Without(other, cause)), tellCauses(decrement.Without(c, cause)))
		}
		want(t, "Worth of other lists", tellRatios(decrement.Worth(other, 5, c.First, otherPaid)), tellRatios(decrement.Worth(c, 5, c.First, paid)))
		want(t, "what was handed in, "+what, tell(), was)
	}
	r := random(154)
	eachCauses(func(what string, c api.Causes) {
		look(what, c, leavesFor(r, len(c.Rates[0]), len(c.Rates)))
		look(what, c, leavesFor(r, 2, len(c.Rates)+1))
		wrong := causesOf(c.First, len(c.Rates), len(c.Rates[0]), always(5))
		wrong.Rates[len(wrong.Rates)-1][0] = -1
		look(what, wrong, nil)
	})
}

// newMemory wants that an answer can be written over, spare room too, and another answer, ahead of it or behind it, is no other one for it.
func newMemory[T any](t *testing.T, what string, call func() T, tell func(T) string, spoil func(T)) {
	t.Helper()
	wanted := tell(call())
	answer, beside := call(), call()
	spoil(answer)
	want(t, what+" beside another answer", tell(beside), wanted)
	want(t, what+" once more", tell(call()), wanted)
}

// spoilList writes over a list, spare room too.
func spoilList[T any](l []T, other T) {
	all := l[:cap(l)]
	for n := range all {
		all[n] = other
	}
}

// R4: an answer is its caller's own, spare room too, and no two of its lists share any; nor is it a part of what was handed in.
func TestAnswersAreNewMemory(t *testing.T) {
	r := random(155)
	ratios := func(what string, call func() ([]api.Ratio, api.Errno)) {
		t.Helper()
		newMemory(t, what, func() []api.Ratio { l, _ := call(); return l }, func(l []api.Ratio) string { return tellRatios(l, api.OK) },
			func(l []api.Ratio) { spoilList(l, api.Ratio{Num: "7", Den: "7"}) })
	}
	eachCauses(func(what string, c api.Causes) {
		was := fmt.Sprint(c)
		spoilCauses := func(a api.Causes) {
			for cause := range a.Rates {
				others := fmt.Sprint(a.Rates[:cause], a.Rates[cause+1:])
				spoilList(a.Rates[cause], -7)
				want(t, "the other lists", fmt.Sprint(a.Rates[:cause], a.Rates[cause+1:]), others)
			}
			spoilList(a.Rates, []int{-7})
		}
		tell := func(a api.Causes) string { return fmt.Sprint(a) }
		for cause := range c.Rates {
			newMemory(t, "Alone of "+what, func() api.Causes { a, _ := decrement.Alone(c, cause); return a }, tell, spoilCauses)
			newMemory(t, "Without of "+what, func() api.Causes { a, _ := decrement.Without(c, cause); return a }, tell, spoilCauses)
		}
		newMemory(t, "Table of "+what, func() api.Table { a, _ := decrement.Table(c, "t"); return a }, func(a api.Table) string { return fmt.Sprint(a) },
			func(a api.Table) { spoilList(a.Rates, -7) })
		newMemory(t, "Floats of "+what, func() []float64 { l, _ := decrement.Floats(c, c.First, 100); return l }, func(l []float64) string { return fmt.Sprint(l) },
			func(l []float64) { spoilList(l, -7) })
		paid := leavesFor(r, len(c.Rates[0]), len(c.Rates))
		ratios("Dependent of "+what, func() ([]api.Ratio, api.Errno) { return decrement.Dependent(c, c.First) })
		ratios("Within of "+what, func() ([]api.Ratio, api.Errno) {
			return decrement.Within(c, c.First, api.Ratio{Num: "1", Den: "2"})
		})
		ratios("Gone of "+what, func() ([]api.Ratio, api.Errno) { return decrement.Gone(c, c.First, 3) })
		ratios("Worth of "+what, func() ([]api.Ratio, api.Errno) { return decrement.Worth(c, 5, c.First, paid) })
		want(t, "what was handed in", fmt.Sprint(c), was)
	})
}

// P1: no call panics, and each ends, whatever it is given; R5: what is beside an error is nothing; R7: the same call tells the same.
func TestNoCallPanics(t *testing.T) {
	check := func(what string, call func() string) {
		t.Helper()
		first := call()
		want(t, what+" twice", call(), first)
		if strings.Contains(first, "beside") {
			t.Errorf("%s: %s", what, short(first))
		}
	}
	odd := []int{0, 1, -1, 3, 30, 31, 60, oldest, oldest + 1, unit, unit + 1, api.MaxRate, api.MaxRate + 1, math.MaxInt, math.MaxInt - 1, math.MinInt, math.MinInt + 1}
	list := []api.Causes{{}, {Rates: [][]int{}}, {Rates: [][]int{nil}}, {Rates: [][]int{nil, {1}}}, {Rates: [][]int{{1}, nil}}, {First: math.MaxInt, Rates: [][]int{{1, 2}}}, {First: math.MinInt, Rates: [][]int{{1, 2}}}, {Rates: [][]int{{math.MinInt}, {math.MaxInt}}},
		sample(), halves(), causesOf(60, most, 2, always(unit)), causesOf(0, 1, oldest+1, always(7))}
	texts := []string{"", "0", "-1", "1", "x", "007", "10000000000000000000000001"}
	paid := [][]api.Leave{nil, {{}}, {{Live: math.MinInt, Gone: []int{math.MaxInt}}}, {{Gone: []int{1, 2}}}, {{Gone: []int{1, 2}}, {Gone: nil}}, make([]api.Leave, longest), slices.Repeat([]api.Leave{{Gone: []int{3}}}, longest)}
	for _, c := range list {
		for _, wrong := range []bool{false, true} {
			for name, call := range callsOf(wrong) {
				check(name, func() string { return call(c) })
			}
			for name, call := range callsAt(wrong) {
				for _, age := range odd {
					check(name, func() string { return call(c, age) })
				}
			}
		}
		for _, x := range odd {
			check("Alone", func() string { return tellCauses(decrement.Alone(c, x)) })
			check("Without", func() string { return tellCauses(decrement.Without(c, x)) })
			for _, y := range odd {
				check("Stay", func() string { return tellRatio(decrement.Stay(c, x, y)) })
				check("Gone", func() string { return tellRatios(decrement.Gone(c, x, y)) })
				for _, l := range paid {
					check("Worth", func() string { return tellRatios(decrement.Worth(c, y, x, l)) })
				}
			}
			for _, radix := range []float64{0, math.Copysign(0, -1), -1, math.NaN(), math.Inf(1), math.Inf(-1), math.MaxFloat64} {
				check("Floats", func() string { return tellFloats(decrement.Floats(c, x, radix)) })
			}
			for _, num := range texts {
				for _, den := range texts {
					check("Within", func() string { return tellRatios(decrement.Within(c, x, api.Ratio{Num: num, Den: den})) })
				}
			}
		}
		for _, name := range texts {
			check("Table", func() string { return tellTable(decrement.Table(c, name)) })
		}
	}
}
