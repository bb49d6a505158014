package state_test

import (
	"fmt"
	"math"
	"slices"
	"strings"
	"testing"

	"tontine/api"
	"tontine/state"
)

// teller tells of lists that were handed in, spare room too.
type teller []func() string

func (l *teller) tell() string {
	var all strings.Builder
	for _, tell := range *l {
		all.WriteString(tell())
	}
	return all.String()
}

// room is a copy of a list with spare room that holds something, of which seen tells.
func room[T any](seen *teller, l []T, other T) []T {
	all := append(slices.Clone(l), other, other, other)
	*seen = append(*seen, func() string { return fmt.Sprint(all) })
	return all[:len(l)]
}

// roomyRows is likewise a copy of rows.
func roomyRows(seen *teller, rows [][]int) [][]int {
	var l [][]int
	for _, row := range rows {
		l = append(l, room(seen, row, 77))
	}
	return room(seen, l, []int{88})
}

// roomyYears is likewise a copy of rows, year by year.
func roomyYears(seen *teller, years [][][]int) [][][]int {
	var l [][][]int
	for _, rows := range years {
		l = append(l, roomyRows(seen, rows))
	}
	return room(seen, l, [][]int{{99}})
}

// listCalls are all calls, of all that they may be given.
func listCalls() map[string]func(c api.Chain, p api.Stays, groups []int) string {
	calls := map[string]func(c api.Chain, p api.Stays, groups []int) string{
		"Lump": func(c api.Chain, _ api.Stays, groups []int) string { return tellChain(state.Lump(c, groups)) },
	}
	for name, call := range worthOf() {
		calls[name] = func(c api.Chain, p api.Stays, _ []int) string { return call(c, 5, p) }
	}
	for name, call := range callsOf(false) {
		calls[name+" beside others"] = func(c api.Chain, _ api.Stays, _ []int) string { return call(c) }
	}
	return calls
}

// R4: what is handed in stays as it is, spare room too; R7: the same call tells the same, whatever the capacity.
func TestArgumentsStay(t *testing.T) {
	r := random(164)
	look := func(what string, c api.Chain, p api.Stays, groups []int) {
		seen := new(teller)
		otherC := api.Chain{States: c.States, Steps: roomyYears(seen, c.Steps)}
		otherP := api.Stays{Stay: roomyRows(seen, p.Stay), Move: roomyYears(seen, p.Move)}
		otherGroups := room(seen, groups, -9)
		was := seen.tell()
		for name, call := range listCalls() {
			want(t, name+" of other lists", call(otherC, otherP, otherGroups), call(c, p, groups))
		}
		want(t, "what was handed in, "+what, seen.tell(), was)
	}
	eachChain(func(what string, c api.Chain) {
		look(what, c, anyStays(r, c), each(c))
		look(what, c, anyStays(r, c), make([]int, c.States))
		look(what, c, anyStays(r, sample(len(c.Steps)+1)), []int{1, -1, 0})
		wrong := stays(c.States, len(c.Steps))
		wrong.Steps[len(wrong.Steps)-1][0][0]--
		look(what, wrong, anyStays(r, wrong), nil)
	})
	a, seen := withSelect(), new(teller)
	other := api.Table{Name: a.Name, First: a.First, Rates: room(seen, a.Rates, 77), Select: roomyRows(seen, a.Select)}
	was := seen.tell()
	for _, l := range []api.Life{{Entry: 60}, {Entry: 61, Years: 1}, {Entry: 59}} {
		want(t, "OfTable of other lists", tellChain(state.OfTable(other, l)), tellChain(state.OfTable(a, l)))
	}
	want(t, "the table that was handed in", seen.tell(), was)
}

// newMemory wants that an answer can be written over, spare room too, and another answer, ahead of it or behind it, is no other one for it.
func newMemory[T any](t *testing.T, what string, call func() T, tell func(T) string, spoil func(T)) {
	t.Helper()
	wanted := tell(call())
	answer, beside := call(), call()
	spoil(answer)
	want(t, what+" beside another answer", tell(beside), wanted)
	want(t, what+" once more", tell(call()), wanted)
}

// spoilList writes over a list, spare room too.
func spoilList[T any](l []T, other T) {
	all := l[:cap(l)]
	for n := range all {
		all[n] = other
	}
}

// spoilRows writes over lists, one behind the other, and wants the others to stay as they are.
func spoilRows[T any](t *testing.T, rows [][]T, other T) {
	t.Helper()
	for n := range rows {
		others := fmt.Sprint(rows[:n], rows[n+1:])
		spoilList(rows[n], other)
		want(t, "the other lists", fmt.Sprint(rows[:n], rows[n+1:]), others)
	}
	spoilList(rows, nil)
}

// spoilChain writes over a chain likewise.
func spoilChain(t *testing.T, c api.Chain) {
	t.Helper()
	var all [][]int
	for _, rows := range c.Steps {
		all = append(all, rows...)
	}
	spoilRows(t, all, -7)
	spoilRows(t, c.Steps, nil)
}

// R4: an answer is its caller's own, spare room too, and no two of its lists share any; nor is it a part of what was handed in.
func TestAnswersAreNewMemory(t *testing.T) {
	r := random(166)
	none := api.Ratio{Num: "7", Den: "7"}
	eachChain(func(what string, c api.Chain) {
		p := anyStays(r, c)
		was := fmt.Sprint(c, p)
		for name, call := range map[string]func() ([]api.Ratio, api.Errno){
			"Chance": func() ([]api.Ratio, api.Errno) { return state.Chance(c, 0, 1) },
			"Occupy": func() ([]api.Ratio, api.Errno) { return state.Occupy(c, 0, 0, 1) },
			"First":  func() ([]api.Ratio, api.Errno) { return state.First(c, 0, 0) },
		} {
			newMemory(t, name+" of "+what, func() []api.Ratio { l, _ := call(); return l }, tellList, func(l []api.Ratio) { spoilList(l, none) })
		}
		rows := func(rows [][]api.Ratio) string { return tellRatioRows(rows, api.OK) }
		spoil := func(l [][]api.Ratio) { spoilRows(t, l, none) }
		for _, to := range []int{0, 1} {
			newMemory(t, "Move of "+what, func() [][]api.Ratio { l, _ := state.Move(c, 0, to); return l }, rows, spoil)
		}
		newMemory(t, "Values of "+what, func() [][]api.Ratio { l, _ := state.Values(c, 5, p); return l }, rows, spoil)
		newMemory(t, "Floats of "+what, func() [][]float64 { l, _ := state.Floats(c, 5, p); return l }, func(l [][]float64) string { return tellFloatRows(l, api.OK) },
			func(l [][]float64) { spoilRows(t, l, -7) })
		newMemory(t, "Spans of "+what, func() [][]api.Span { l, _ := state.Spans(c, 5, p); return l }, func(l [][]api.Span) string { return tellSpanRows(l, api.OK) },
			func(l [][]api.Span) { spoilRows(t, l, api.Span{Lo: -7}) })
		chain := func(c api.Chain) string { return tellChain(c, api.OK) }
		for _, groups := range [][]int{each(c), make([]int, c.States)} {
			newMemory(t, "Lump of "+what, func() api.Chain { l, _ := state.Lump(c, groups); return l }, chain, func(c api.Chain) { spoilChain(t, c) })
		}
		want(t, "what was handed in", fmt.Sprint(c, p), was)
	})
	eachLife(func(what string, a api.Table, l api.Life) {
		was := fmt.Sprint(a)
		newMemory(t, "OfTable of "+what, func() api.Chain { c, _ := state.OfTable(a, l); return c }, func(c api.Chain) string { return tellChain(c, api.OK) }, func(c api.Chain) { spoilChain(t, c) })
		want(t, "the table", fmt.Sprint(a), was)
	})
}

// P1: no call panics, and each ends, whatever it is given; R5: what is beside an error is nothing; R7: the same call tells the same.
func TestNoCallPanics(t *testing.T) {
	check := func(what string, call func() string) {
		t.Helper()
		first := call()
		want(t, what+" twice", call(), first)
		if strings.Contains(first, "beside") {
			t.Errorf("%s: %s", what, short(first))
		}
	}
	odd := []int{0, 1, -1, 2, 3, unit, api.MaxRate, api.MaxRate + 1, math.MaxInt, math.MaxInt - 1, math.MinInt, math.MinInt + 1}
	list := []api.Chain{
		{}, {States: 1}, {States: 1, Steps: [][][]int{nil}}, {States: 1, Steps: [][][]int{{nil}}}, {States: math.MaxInt, Steps: [][][]int{{{unit}}}}, {States: math.MinInt, Steps: [][][]int{{{unit}}}}, {States: -1, Steps: [][][]int{{{unit}}}},
		{States: 2, Steps: [][][]int{{{math.MinInt, math.MinInt}, {math.MaxInt, math.MaxInt}}}}, {States: 2, Steps: [][][]int{{{unit, 0}, {0, unit}}, {{unit, 0}}}}, {States: 2, Steps: [][][]int{{{unit, 0}, {0}}}},
		sample(1), sample(2), stays(1, 3), stays(most, 2),
	}
	paid := []api.Stays{{}, {Stay: [][]int{nil}, Move: [][][]int{nil}}, {Stay: [][]int{{1}, {1}, {1}}, Move: [][][]int{{{1}}, {{1}}, {{1}}}}, {Stay: [][]int{{0, 0, 0}}}, {Stay: [][]int{{0, 0, 0}}, Move: [][][]int{{{0, 0, 0}, {0}, nil}}},
		noStays(sample(1)), noStays(sample(2)), ones(sample(2), 2, 2), {Stay: [][]int{{math.MinInt, math.MaxInt, 0}}, Move: noStays(sample(1)).Move}}
	groups := [][]int{nil, {}, {0}, {0, 0, 1}, {0, 1, 2}, {math.MinInt, math.MaxInt, 0}, {0, math.MaxInt, math.MinInt}, make([]int, most)}
	for _, c := range list {
		for _, wrong := range []bool{false, true} {
			for name, call := range callsOf(wrong) {
				check(name, func() string { return call(c) })
			}
		}
		for _, x := range odd {
			for _, y := range odd {
				check("Move", func() string { return tellRatioRows(state.Move(c, x, y)) })
				check("Chance", func() string { return tellRatios(state.Chance(c, x, y)) })
				check("Occupy", func() string { return tellRatios(state.Occupy(c, 0, x, y)) })
				check("Occupy", func() string { return tellRatios(state.Occupy(c, x, y, 1)) })
				check("First", func() string { return tellRatios(state.First(c, x, y)) })
				for _, p := range paid {
					check("Level", func() string { return tellRatio(state.Level(c, 5, p, x, y)) })
				}
			}
			for _, p := range paid {
				check("Values", func() string { return tellRatioRows(state.Values(c, x, p)) })
				check("Floats", func() string { return tellFloatRows(state.Floats(c, x, p)) })
				check("Spans", func() string { return tellSpanRows(state.Spans(c, x, p)) })
			}
		}
		for _, l := range groups {
			check("Lump", func() string { return tellChain(state.Lump(c, l)) })
		}
	}
	for _, a := range []api.Table{{}, {Name: "t"}, {Name: "t", First: math.MaxInt, Rates: []int{unit}}, {Name: "t", Rates: []int{unit}, Select: [][]int{nil}}, ages(), withSelect(), longTable(0)} {
		for _, x := range odd {
			for _, y := range odd {
				check("OfTable", func() string { return tellChain(state.OfTable(a, api.Life{Entry: x, Years: y})) })
				check("OfTable", func() string { return tellChain(state.OfTable(a, api.Life{Entry: 60 + x, Years: y})) })
			}
		}
	}
}
