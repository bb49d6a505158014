package joint_test

import (
	"fmt"
	"math"
	"slices"
	"strings"
	"testing"

	"tontine/api"
	"tontine/joint"
)

// roomyBasis is a copy of b whose lists have spare room with something in it, and a way to tell all of that.
func roomyBasis(b api.Basis) (api.Basis, func() string) {
	var lists [][]int
	list := func(l []int) []int {
		room := append(slices.Clone(l), 77, 77, 77)
		lists = append(lists, room)
		return room[:len(l)]
	}
	c := api.Basis{Table: api.Table{Name: b.Table.Name, First: b.Table.First, Rates: list(b.Table.Rates)}, Rate: b.Rate}
	members := make([][]int, len(b.Table.Select), len(b.Table.Select)+2)
	for d, l := range b.Table.Select {
		members[d] = list(l)
	}
	members = append(members, []int{88}, []int{99})
	c.Table.Select = members[:len(b.Table.Select)]
	return c, func() string { return fmt.Sprint(c, lists, members) }
}

// room is a copy of a list with spare room that holds something, and a way to tell all of that.
func room[T any](l []T, other T) ([]T, func() string) {
	all := append(slices.Clone(l), other, other, other)
	return all[:len(l)], func() string { return fmt.Sprint(all) }
}

// R4: what is handed in stays as it is, spare room too; R7: the same call tells the same, whatever the capacity. R3: no Select may be nil or empty.
func TestArgumentsStay(t *testing.T) {
	r := random(153)
	for _, a := range append(tables(), changed(func(t *api.Table) { t.Select[0][1] = -1 })) {
		for lives := 0; lives <= most+1; lives++ {
			b, party, pays := api.Basis{Table: a, Rate: 5}, partyOf(r, a, lives), patternFor(r, lives)
			otherBasis, tellBasis := roomyBasis(b)
			otherParty, tellParty := room(party, api.Life{Entry: -7})
			otherPays, tellPays := room(pays, -7)
			tell := func() string { return tellBasis() + tellParty() + tellPays() }
			was := tell()
			for _, wrong := range []bool{false, true} {
				for name, call := range calls(wrong) {
					want(t, name+" of another party", call(otherBasis, otherParty), call(b, party))
				}
				for name, call := range callsOfTable(wrong) {
					want(t, name+" of another party", call(otherBasis.Table, otherParty), call(a, party))
				}
			}
			for _, years := range []int{0, 3, -1} {
				other := annuities(otherBasis, otherParty, otherPays, years)
				for name, got := range annuities(b, party, pays, years) {
					want(t, name+" of another pattern", other[name], got)
				}
			}
			want(t, "what was handed in", tell(), was)
		}
	}
	b, party := sample()
	empty := b
	empty.Table.Select = [][]int{}
	for name, call := range calls(false) {
		want(t, name+" of an empty Select", call(empty, party), call(b, party))
	}
}

// newMemory wants that an answer can be written over, spare room too, and a later answer is no other one for it.
func newMemory(t *testing.T, what string, call func() ([]api.Ratio, api.Errno)) {
	t.Helper()
	wanted := tellRatios(call())
	l, _ := call()
	beside, e := call()
	spare := l[:cap(l)]
	for n := range spare {
		spare[n] = api.Ratio{Num: "7", Den: "7"}
	}
	want(t, what+" beside another answer", tellRatios(beside, e), wanted)
	want(t, what+" once more", tellRatios(call()), wanted)
}

// R4: an answer is its caller's own, spare room too.
func TestAnswersAreNewMemory(t *testing.T) {
	eachOfSome(func(b api.Basis, party []api.Life) {
		for _, years := range []int{0, 1, 2, longest} {
			newMemory(t, fmt.Sprint("Alive in ", years), func() ([]api.Ratio, api.Errno) { return joint.Alive(b.Table, party, years) })
			newMemory(t, fmt.Sprint("Sums in ", years), func() ([]api.Ratio, api.Errno) { return joint.Sums(b.Table, party, years) })
		}
	})
}

// P1: no call panics, and each ends, whatever it is given; R5: what is beside an error is nothing; R7: the same call tells the same.
func TestNoCallPanics(t *testing.T) {
	check := func(what string, call func() string) {
		t.Helper()
		first := call()
		want(t, what+" twice", call(), first)
		if strings.Contains(first, "beside") {
			t.Errorf("%s: %s", what, short(first))
		}
	}
	odd := []int{0, 1, -1, 3, 7, 60, 63, oldest, oldest + 1, unit, api.MaxRate, api.MaxRate + 1, math.MaxInt, math.MinInt}
	tables := []api.Table{{}, broken().Table, {Name: "t"}, {Name: "t", Rates: []int{unit}, Select: [][]int{nil}}, {Name: "t", Rates: []int{unit}, Select: make([][]int, 3)}, {Name: "t", First: math.MaxInt, Rates: []int{unit}}, {Name: "t", First: math.MinInt, Rates: []int{unit}}, ages(), changed(func(*api.Table) {}), {Name: "t", Rates: []int{unit}}}
	for _, a := range tables {
		for _, x := range odd {
			for _, y := range odd {
				l := api.Life{Entry: x, Years: y}
				for _, party := range [][]api.Life{{l}, {l, l}, {{Entry: 60}, l}} {
					for name, call := range calls(false) {
						check(name, func() string { return call(api.Basis{Table: a, Rate: 5}, party) })
						check(name, func() string { return call(api.Basis{Table: a, Rate: x}, party) })
					}
					for name, call := range callsOfTable(false) {
						check(name, func() string { return call(a, party) })
					}
				}
				check("Behind", func() string { return behind(api.Basis{Table: a, Rate: 5}, []api.Life{l, {Entry: 60}}, 3) })
			}
		}
	}
	eachOfSome(func(b api.Basis, party []api.Life) {
		for _, x := range odd {
			check("Alive", func() string { return tellRatios(joint.Alive(b.Table, party, x)) })
			check("Sums", func() string { return tellRatios(joint.Sums(b.Table, party, x)) })
			check("Behind", func() string { return tellRatio(joint.Behind(b, party[0], party[0], x)) })
			for _, y := range odd {
				check("Least", func() string { return tellRatio(joint.Least(b.Table, party, x, y)) })
				check("Assure", func() string { return tellRatio(joint.Assure(b, party, x, y)) })
				check("First", func() string { return tellRatio(joint.First(b, party, x, y)) })
				check("Annuity", func() string {
					return tellRatio(joint.Annuity(b, party, slices.Repeat([]int{x}, len(party)+1), y, true))
				})
				check("Nesbitt", func() string {
					return tellRatio(joint.Nesbitt(b, party, slices.Repeat([]int{x}, len(party)+1), y, false))
				})
			}
		}
	})
}
