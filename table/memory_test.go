package table_test

import (
	"fmt"
	"math"
	"slices"
	"strings"
	"testing"

	"tontine/api"
	"tontine/table"
)

// roomy is a copy of t whose lists have spare room with something in it, and a way to tell all of that.
func roomy(t api.Table) (api.Table, func() string) {
	var lists [][]int
	list := func(l []int) []int {
		room := append(slices.Clone(l), 77, 77, 77)
		lists = append(lists, room)
		return room[:len(l)]
	}
	c := api.Table{Name: t.Name, First: t.First, Rates: list(t.Rates)}
	members := make([][]int, len(t.Select), len(t.Select)+2)
	for d, l := range t.Select {
		members[d] = list(l)
	}
	members = append(members, []int{88}, []int{99})
	c.Select = members[:len(t.Select)]
	return c, func() string { return fmt.Sprint(c, lists, members) }
}

// R4: what is handed in stays as it is, spare room too; R7: the same call tells the same, whatever the capacity.
func TestTablesStay(t *testing.T) {
	wrong := changed(chosen(), func(t *api.Table) { t.Select[0][1] = -1 })
	for _, a := range append(tables(), wrong, broken()) {
		room, all := roomy(a)
		was := all()
		for name, call := range tableCalls(false) {
			want(t, name+" of another table", call(room), call(a))
		}
		for name, call := range lifeCalls(false) {
			l := api.Life{Entry: a.First}
			want(t, name+" of another table", call(room, l), call(a, l))
		}
		other, allOfOther := roomy(a)
		wasOther := allOfOther()
		want(t, "Blend of other tables", tellTable(table.Blend(room, other, 3)), tellTable(table.Blend(a, a, 3)))
		want(t, "what was handed in", all(), was)
		want(t, "what was handed in behind it", allOfOther(), wasOther)
	}
}

// R3: no Select may be nil or empty.
func TestNoneIsNone(t *testing.T) {
	none, empty := ages(), ages()
	none.Select, empty.Select = nil, [][]int{}
	for name, call := range tableCalls(false) {
		want(t, name, call(empty), call(none))
	}
	for name, call := range lifeCalls(false) {
		want(t, name, call(empty, api.Life{Entry: 61}), call(none, api.Life{Entry: 61}))
	}
	want(t, "Blend", tellTable(table.Blend(none, empty, 7)), tellTable(ages(), api.OK))
	want(t, "Blend", tellTable(table.Blend(empty, none, 7)), tellTable(ages(), api.OK))
}

// filled writes over all lists of a table, spare room too.
func filled(t api.Table) {
	for _, l := range append([][]int{t.Rates}, t.Select[:cap(t.Select)]...) {
		l = l[:cap(l)]
		for k := range l {
			l[k] = -7
		}
	}
}

// makers are calls that answer a table, made of one or of its text.
func makers() map[string]func(t api.Table) api.Table {
	return map[string]func(t api.Table) api.Table{
		"Improve":         func(t api.Table) api.Table { m, _ := table.Improve(t, 0, 0); return m },
		"Blend":           func(t api.Table) api.Table { m, _ := table.Blend(t, t, unit); return m },
		"Blend of others": func(t api.Table) api.Table { m, _ := table.Blend(copied(t), t, 0); return m },
		"Parse":           func(t api.Table) api.Table { m, _ := table.Parse(written(t)); return m },
	}
}

// R4: a table that is answered is its caller's own, spare room too: it shares nothing with an argument or another answer, nor one list with another.
func TestTablesAreNewMemory(t *testing.T) {
	shared := chosen()
	shared.Select = [][]int{shared.Rates} // the argument's own lists may share what they like
	for _, a := range append(tables(), shared) {
		wanted := tellTable(a, api.OK)
		for name, call := range makers() {
			first, second := call(a), call(a)
			filled(first)
			want(t, "what was handed to "+name, tellTable(a, api.OK), wanted)
			want(t, name+" beside another answer", tellTable(second, api.OK), wanted)
			third := call(a)
			l := third.Rates[:cap(third.Rates)]
			for k := range l {
				l[k] = -7
			}
			want(t, "Select beside Rates of "+name, fmt.Sprint(third.Select), fmt.Sprint(second.Select))
			for d := range third.Select {
				fourth := call(a)
				l := fourth.Select[d][:cap(fourth.Select[d])]
				for k := range l {
					l[k] = -7
				}
				fourth.Select[d] = a.Select[d]
				want(t, name+" beside one of its lists", tellTable(fourth, api.OK), wanted)
			}
		}
	}
}

// R4: so are floats and spans.
func TestListsAreNewMemory(t *testing.T) {
	a, l := chosen(), api.Life{Entry: 60}
	floats, _ := table.Lives(a, l, 3)
	others, e := table.Lives(a, l, 3)
	wanted := tellFloats(others, e)
	clear(floats[:cap(floats)])
	want(t, "Lives beside another answer", tellFloats(others, e), wanted)
	want(t, "Lives once more", tellFloats(table.Lives(a, l, 3)), wanted)
	spans, _ := table.Spans(a, l)
	more, e := table.Spans(a, l)
	wanted = tellSpans(more, e)
	clear(spans[:cap(spans)])
	want(t, "Spans beside another answer", tellSpans(more, e), wanted)
	want(t, "Spans once more", tellSpans(table.Spans(a, l)), wanted)
}

// P1: no call panics, and each ends, whatever it is given; R5: what is beside an error is nothing; R7: the same call tells the same.
func TestNoCallPanics(t *testing.T) {
	numbers := []int{0, 1, -1, 60, 63, oldest, oldest + 1, unit, unit + 1, math.MaxInt, math.MinInt}
	odd := []api.Table{{}, broken(), {Name: "t"}, {Name: "t", Rates: []int{unit}, Select: [][]int{nil}}, {Name: "t", Rates: []int{unit}, Select: make([][]int, 3)}, {Name: "t", First: math.MaxInt, Rates: []int{unit}}, {Name: "t", First: math.MinInt, Rates: []int{unit}}, ages(), chosen(), tableOf(0, oldest+1, api.MaxSelect, func(int, int) int { return 1 })}
	check := func(what string, call func() string) {
		t.Helper()
		first := call()
		want(t, what+" twice", call(), first)
		if strings.Contains(first, "beside") {
			t.Errorf("%s: %s", what, short(first))
		}
	}
	for _, a := range odd {
		for name, call := range tableCalls(false) {
			check(name, func() string { return call(a) })
		}
		for _, n := range numbers {
			check("Basis", func() string { return told("OK", table.Basis(api.Basis{Table: a, Rate: n}), true) })
			for _, m := range numbers {
				l := api.Life{Entry: n, Years: m}
				for _, wrong := range []bool{false, true} {
					for name, call := range lifeCalls(wrong) {
						check(name, func() string { return call(a, l) })
					}
				}
				l = api.Life{Entry: 60}
				check("Rate", func() string { return tellInt(table.Rate(a, l, n)) })
				check("Expect", func() string { return tell(table.Expect(a, l, n, m)) })
				check("Within", func() string { return tell(table.Within(a, l, n, of("1/3"), m)) })
				check("Improve", func() string { return tellTable(table.Improve(a, n, m)) })
			}
			for _, b := range odd {
				check("Blend", func() string { return tellTable(table.Blend(a, b, n)) })
			}
		}
	}
}
