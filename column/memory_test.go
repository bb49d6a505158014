package column_test

import (
	"fmt"
	"math"
	"slices"
	"strings"
	"testing"

	"tontine/api"
	"tontine/column"
)

// roomy is a copy of b whose lists have spare room with something in it, and a way to tell all of that.
func roomy(b api.Basis) (api.Basis, func() string) {
	var lists [][]int
	list := func(l []int) []int {
		room := append(slices.Clone(l), 77, 77, 77)
		lists = append(lists, room)
		return room[:len(l)]
	}
	c := api.Basis{Table: api.Table{Name: b.Table.Name, First: b.Table.First, Rates: list(b.Table.Rates)}, Rate: b.Rate}
	members := make([][]int, len(b.Table.Select), len(b.Table.Select)+2)
	for d, l := range b.Table.Select {
		members[d] = list(l)
	}
	members = append(members, []int{88}, []int{99})
	c.Table.Select = members[:len(b.Table.Select)]
	return c, func() string { return fmt.Sprint(c, lists, members) }
}

// R4: what is handed in stays as it is, spare room too; R7: the same call tells the same, whatever the capacity. R3: no Select may be nil or empty.
func TestArgumentsStay(t *testing.T) {
	for _, a := range append(tables(), changed(func(t *api.Table) { t.Select[0][1] = -1 })) {
		b := api.Basis{Table: a, Rate: 5}
		room, all := roomy(b)
		was := all()
		for _, wrong := range []bool{false, true} {
			for name, call := range calls(wrong) {
				l := api.Life{Entry: a.First}
				want(t, name+" of another table", call(room, l), call(b, l))
				want(t, "what was handed to "+name, all(), was)
			}
		}
	}
	b, l := sample()
	empty := b
	empty.Table.Select = [][]int{}
	for name, call := range calls(false) {
		want(t, name+" of an empty Select", call(empty, l), call(b, l))
	}
}

// newMemory wants that each of an answer's lists can be written over, spare room too, and no other list, nor a later answer, is another one for it.
func newMemory[T any](t *testing.T, what string, other T, call func() map[string][]T, tell func(x T, e api.Errno) string) {
	t.Helper()
	wanted := tellSix(call(), api.OK, tell)
	for _, name := range line {
		six, beside := call(), call()
		kept := slices.Clone(six[name])
		spare := six[name][:cap(six[name])]
		for n := range spare {
			spare[n] = other
		}
		six[name] = kept
		want(t, what+" beside its "+name, tellSix(six, api.OK, tell), wanted)
		want(t, what+" beside another answer", tellSix(beside, api.OK, tell), wanted)
		want(t, what+" once more", tellSix(call(), api.OK, tell), wanted)
	}
}

// R4: an answer is its caller's own, spare room too, and no two of its lists share any.
func TestAnswersAreNewMemory(t *testing.T) {
	for _, a := range tables() {
		b, l := api.Basis{Table: a, Rate: 250000}, api.Life{Entry: a.First}
		floats := func() map[string][]float64 { c, _ := column.Floats(b, l, 3); return floatsOf(c) }
		spans := func() map[string][]api.Span { c, _ := column.Spans(b, l); return spansOf(c) }
		newMemory(t, "Floats", -7, floats, tellFloat)
		newMemory(t, "Spans", api.Span{Lo: -7, Hi: -7}, spans, tellSpan)
	}
}

// P1: no call panics, and each ends, whatever it is given; R5: what is beside an error is nothing; R7: the same call tells the same.
func TestNoCallPanics(t *testing.T) {
	check := func(what string, call func() string) {
		t.Helper()
		first := call()
		want(t, what+" twice", call(), first)
		if strings.Contains(first, "beside") {
			t.Errorf("%s: %s", what, short(first))
		}
	}
	numbers := []int{0, 1, -1, 3, 7, 60, 63, oldest, oldest + 1, unit, api.MaxRate, api.MaxRate + 1, math.MaxInt, math.MinInt}
	odd := []api.Table{{}, broken().Table, {Name: "t"}, {Name: "t", Rates: []int{unit}, Select: [][]int{nil}}, {Name: "t", Rates: []int{unit}, Select: make([][]int, 3)}, {Name: "t", First: math.MaxInt, Rates: []int{unit}}, {Name: "t", First: math.MinInt, Rates: []int{unit}}, ages(), changed(func(*api.Table) {}), {Name: "t", Rates: []int{unit}}}
	for _, a := range odd {
		for _, x := range numbers {
			for _, y := range numbers {
				for _, wrong := range []bool{false, true} {
					for name, call := range calls(wrong) {
						check(name, func() string { return call(api.Basis{Table: a, Rate: 5}, api.Life{Entry: x, Years: y}) })
						check(name, func() string { return call(api.Basis{Table: a, Rate: x}, api.Life{Entry: 60, Years: y}) })
					}
				}
			}
		}
	}
	b, l := sample()
	for _, x := range numbers {
		check("Exact", func() string { return tellColumn(column.Exact(b, l, x)) })
		for _, y := range numbers {
			for _, z := range numbers {
				for _, f := range []api.Benefit{{Kind: api.BRising, Wait: x, Term: y, Sure: z}, {Kind: x, Wait: y, Term: z}, {Kind: x, Wait: y, Term: 3, Sure: z}} {
					check("Value", func() string { return tellFloat(column.Value(b, l, f)) })
					check("Within", func() string { return tellSpan(column.Within(b, l, f)) })
				}
			}
		}
	}
	for _, radix := range append(radixes, math.NaN(), math.Inf(1), math.Inf(-1), -1, -5e-324) {
		check("Floats", func() string { return tellColumns(column.Floats(b, l, radix)) })
	}
}
