package value_test

import (
	"fmt"
	"math"
	"slices"
	"strings"
	"testing"

	"tontine/api"
	"tontine/value"
)

// roomy is a copy of b whose lists have spare room with something in it, and a way to tell all of that.
func roomy(b api.Basis) (api.Basis, func() string) {
	var lists [][]int
	list := func(l []int) []int {
		room := append(slices.Clone(l), 77, 77, 77)
		lists = append(lists, room)
		return room[:len(l)]
	}
	c := api.Basis{Table: api.Table{Name: b.Table.Name, First: b.Table.First, Rates: list(b.Table.Rates)}, Rate: b.Rate}
	members := make([][]int, len(b.Table.Select), len(b.Table.Select)+2)
	for d, l := range b.Table.Select {
		members[d] = list(l)
	}
	members = append(members, []int{88}, []int{99})
	c.Table.Select = members[:len(b.Table.Select)]
	return c, func() string { return fmt.Sprint(c, lists, members) }
}

// R4: what is handed in stays as it is, spare room too; R7: the same call tells the same, whatever the capacity. R3: no Select may be nil or empty.
func TestArgumentsStay(t *testing.T) {
	for _, a := range append(tables(), changed(func(t *api.Table) { t.Select[0][1] = -1 })) {
		b := api.Basis{Table: a, Rate: 5}
		room, all := roomy(b)
		was := all()
		for _, wrong := range []bool{false, true} {
			for name, call := range calls(wrong) {
				for _, f := range []api.Benefit{due, {Kind: api.BLate, Term: 5, Sure: 2}} {
					l := api.Life{Entry: a.First}
					want(t, name+" of another table", call(room, l, f), call(b, l, f))
					want(t, "what was handed to "+name, all(), was)
				}
			}
		}
	}
	b, l := sample()
	empty := b
	empty.Table.Select = [][]int{}
	for name, call := range calls(false) {
		want(t, name+" of an empty Select", call(empty, l, due), call(b, l, due))
	}
}

// newMemory wants that an answer can be written over, spare room too, and a later answer is no other one for it.
func newMemory[T any](t *testing.T, what string, other T, call func() ([]T, api.Errno), tell func(l []T, e api.Errno) string) {
	t.Helper()
	wanted := tell(call())
	l, _ := call()
	beside, e := call()
	spare := l[:cap(l)]
	for n := range spare {
		spare[n] = other
	}
	want(t, what+" beside another answer", tell(beside, e), wanted)
	want(t, what+" once more", tell(call()), wanted)
}

// R4: an answer is its caller's own, spare room too.
func TestAnswersAreNewMemory(t *testing.T) {
	b, l := sample()
	for _, kind := range kinds {
		for _, f := range benefitsFor(kind, 4) {
			newMemory(t, fmt.Sprint("Later of ", f), api.Ratio{Num: "7", Den: "7"}, func() ([]api.Ratio, api.Errno) { return value.Later(b, l, f) }, tellRatios)
			newMemory(t, fmt.Sprint("Flows of ", f), api.Flow{Time: -7}, func() ([]api.Flow, api.Errno) { return value.Flows(f, 3) }, tellFlows)
		}
	}
}

// P1: no call panics, and each ends, whatever it is given; R5: what is beside an error is nothing; R7: the same call tells the same.
func TestNoCallPanics(t *testing.T) {
	check := func(what string, call func() string) {
		t.Helper()
		first := call()
		want(t, what+" twice", call(), first)
		if strings.Contains(first, "beside") {
			t.Errorf("%s: %s", what, short(first))
		}
	}
	numbers := []int{0, 1, -1, 3, 7, 60, 63, oldest, oldest + 1, 365, 366, unit, api.MaxRate, api.MaxRate + 1, math.MaxInt, math.MinInt}
	odd := []api.Table{{}, broken().Table, {Name: "t"}, {Name: "t", Rates: []int{unit}, Select: [][]int{nil}}, {Name: "t", Rates: []int{unit}, Select: make([][]int, 3)}, {Name: "t", First: math.MaxInt, Rates: []int{unit}}, {Name: "t", First: math.MinInt, Rates: []int{unit}}, ages(), changed(func(*api.Table) {}), {Name: "t", Rates: []int{unit}}}
	for _, a := range odd {
		for _, x := range numbers {
			for _, y := range numbers {
				for name, call := range calls(false) {
					check(name, func() string { return call(api.Basis{Table: a, Rate: 5}, api.Life{Entry: x, Years: y}, due) })
					check(name, func() string { return call(api.Basis{Table: a, Rate: x}, api.Life{Entry: 60, Years: y}, due) })
				}
			}
		}
	}
	b, l := sample()
	for _, x := range numbers {
		check("Parts", func() string { return tellRatio(value.Parts(b, l, due, x)) })
		for _, y := range numbers {
			for _, z := range numbers {
				for _, f := range []api.Benefit{{Kind: api.BLate, Wait: x, Term: y, Sure: z}, {Kind: x, Wait: y, Term: z}, {Kind: x, Wait: y, Term: 3, Sure: z}} {
					check("Check", func() string { return value.Check(f).Error() })
					check("Flows", func() string { return tellFlows(value.Flows(f, x)) })
					check("Flows", func() string { return tellFlows(value.Flows(f, z)) })
					for name, call := range calls(false) {
						check(name, func() string { return call(b, l, f) })
					}
				}
			}
		}
	}
	for _, most := range []api.Ratio{{}, {Num: "-", Den: "1"}, {Num: "1", Den: "00"}, {Num: "x", Den: "y"}, {Num: "-1", Den: "3"}} {
		check("Chance", func() string { return tellRatio(value.Chance(b, l, due, most)) })
	}
}
