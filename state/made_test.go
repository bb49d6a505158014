package state_test

import (
	"fmt"
	"math"
	"math/rand"
	"slices"
	"testing"

	"tontine/api"
	"tontine/state"
	"tontine/table"
)

// groupings are all groups of so many states.
func groupings(states int) [][]int {
	all := [][]int{{0}}
	for range states - 1 {
		var longer [][]int
		for _, groups := range all {
			for g := range slices.Max(groups) + 2 {
				longer = append(longer, append(slices.Clone(groups), g))
			}
		}
		all = longer
	}
	return all
}

// parted is a chain that is lumped to another one by groups: each chance to come to a group is cut into parts in any way.
func parted(r *rand.Rand, c api.Chain, groups []int) api.Chain {
	return chainOf(len(groups), len(c.Steps), func(y, i int) []int {
		row := make([]int, len(groups))
		for group, left := range c.Steps[y][groups[i]] {
			var members []int
			for j, g := range groups {
				if g == group {
					members = append(members, j)
				}
			}
			for _, j := range members[1:] {
				row[j] = r.Intn(left + 1)
				left -= row[j]
			}
			row[members[0]] = left
		}
		return row
	})
}

// eachLump goes over chains of groups, and chains that are lumped to these.
func eachLump(do func(what string, lumped, c api.Chain, groups []int)) {
	r := random(165)
	for states := 1; states <= 5; states++ {
		for _, groups := range groupings(states) {
			lumped := anyChain(r, slices.Max(groups)+1, 1+r.Intn(4))
			c := parted(r, lumped, groups)
			do(fmt.Sprint(whatOf(c), " by ", groups), lumped, c, groups)
		}
	}
	for range 40 {
		all := groupings(most)
		groups := all[r.Intn(len(all))]
		lumped := anyChain(r, slices.Max(groups)+1, []int{1, 2, 3, longest}[r.Intn(4)])
		c := parted(r, lumped, groups)
		do(fmt.Sprint(whatOf(c), " by ", groups), lumped, c, groups)
	}
}

// 16.5: chains that can be put together, by all groups.
func TestLump(t *testing.T) {
	eachLump(func(what string, lumped, c api.Chain, groups []int) {
		want(t, "Lump of "+what, tellChain(state.Lump(c, groups)), tellChain(lumped, api.OK))
	})
}

// 16.5: each state by itself leaves the chain as it is; all in one are one state, which nobody leaves.
func TestLumpEachAndAll(t *testing.T) {
	look := func(what string, c api.Chain) {
		want(t, "Lump of each of "+what, tellChain(state.Lump(c, each(c))), tellChain(c, api.OK))
		want(t, "Lump of all of "+what, tellChain(state.Lump(c, make([]int, c.States))), tellChain(stays(1, len(c.Steps)), api.OK))
	}
	eachChain(look)
	eachLongChain(look)
}

// 16.5: states of one group whose chances to come to groups differ by one in one year, be it the first or the last one, cannot be put together; if they differ between members of one group, and their sums do not, they can.
func TestNoLump(t *testing.T) {
	r := random(1655)
	refusedOnes := 0
	eachLump(func(what string, lumped, c api.Chain, groups []int) {
		for _, y := range []int{0, len(c.Steps) - 1} {
			for i, row := range c.Steps[y] {
				from := slices.IndexFunc(row, func(step int) bool { return step > 0 })
				for to := range row {
					if from == to || row[to] == unit {
						continue
					}
					was := slices.Clone(row)
					row[from], row[to] = row[from]-1, row[to]+1
					together := slices.Index(groups, groups[i]) != i || slices.Contains(groups[i+1:], groups[i])
					if groups[from] != groups[to] && together {
						want(t, fmt.Sprint("Lump, a chance changed at ", y, " ", i, " ", to), tellChain(state.Lump(c, groups)), refused(api.ErrChain))
						refusedOnes++
					} else if groups[from] == groups[to] {
						want(t, fmt.Sprint("Lump, the sums are as they were at ", y, " ", i, " ", to), tellChain(state.Lump(c, groups)), tellChain(lumped, api.OK))
					}
					copy(row, was)
				}
			}
		}
	})
	if refusedOnes < 1000 {
		t.Error("only", refusedOnes, "chains were not to be put together")
	}
	two := chainOf(4, 3, func(y, i int) []int { return []int{1000000, 2000000, 3000000, 4000000} })
	groups := []int{0, 1, 1, 0}
	two.Steps[1][2] = []int{4000000, 3000000, 2000000, 1000000}
	want(t, "unlike chances, like sums", tellChain(state.Lump(two, groups)), tellChain(chainOf(2, 3, func(int, int) []int { return []int{5000000, 5000000} }), api.OK))
	two.Steps[r.Intn(3)][2] = []int{4000000, 3000000, 2000001, 999999}
	want(t, "unlike sums in one year", tellChain(state.Lump(two, groups)), refused(api.ErrChain))
}

// areGroups tells whether groups are numbered as they come.
func areGroups(groups []int) bool {
	for k, group := range groups {
		others := slices.Clone(groups[:k])
		slices.Sort(others)
		if group < 0 || group > len(slices.Compact(others)) {
			return false
		}
	}
	return true
}

// 16.5: all lists of numbers near the right ones: which are groups, and which are not (a first one that is not 0, one below 0, one that leaves a number out).
func TestNoGroups(t *testing.T) {
	c := chainOf(4, 2, func(int, int) []int { return []int{1000000, 2000000, 3000000, 4000000} })
	right := 0
	for code := range 6 * 6 * 6 * 6 {
		groups := []int{code%6 - 1, code/6%6 - 1, code/36%6 - 1, code/216 - 1}
		got := tellChain(state.Lump(c, groups))
		if !areGroups(groups) {
			want(t, fmt.Sprint("Lump by ", groups), got, refused(api.ErrState))
			continue
		}
		right++
		if lumped, e := state.Lump(c, groups); e != api.OK || lumped.States != slices.Max(groups)+1 || state.Check(lumped) != api.OK {
			t.Error("Lump by", groups, got)
		}
	}
	if right != 15 {
		t.Error(right, "lists were groups")
	}
	for k := range 4 {
		for _, x := range far {
			groups := []int{0, 1, 2, 3}
			groups[k] = x
			want(t, fmt.Sprint("Lump by ", groups), tellChain(state.Lump(c, groups)), refused(api.ErrState))
		}
	}
}

// 16.5: groups that are not as many as states, whatever they are, and however many (R3).
func TestGroupsOfOtherSizes(t *testing.T) {
	for _, groups := range [][]int{nil, {}, {0}, {0, 1}, {0, 1, 2, 3}, {-1}, {-1, 5}, {7, 7, 7, 7}, make([]int, api.MaxItems+1), make([]int, most)} {
		want(t, fmt.Sprint("Lump by ", len(groups), " groups"), tellChain(state.Lump(sample(2), groups)), refused(api.ErrPairs))
	}
}

// ages is chapter 9's first table.
func ages() api.Table {
	return api.Table{Name: "t", First: 60, Rates: []int{1000000, 2000000, 5000000, unit}}
}

// withSelect is chapter 9's first table with rates for those who were taken on lately.
func withSelect() api.Table {
	t := ages()
	t.Select = [][]int{{500000, 1000000, 2500000, unit}, {600000, 1200000, unit}}
	return t
}

// longTable is a table of all ages, or of all from an age on; the rates are told by the ages.
func longTable(first int) api.Table {
	t := api.Table{Name: "long", First: first}
	for age := first; age < api.MaxAge; age++ {
		t.Rates = append(t.Rates, 70000*age/2)
	}
	t.Rates = append(t.Rates, unit)
	return t
}

// eachLife goes over lives of tables.
func eachLife(do func(what string, a api.Table, l api.Life)) {
	for _, a := range []api.Table{ages(), withSelect(), longTable(0), longTable(1), longTable(2), {Name: "one", First: 5, Rates: []int{unit}}, {Name: "last", First: api.MaxAge, Rates: []int{unit}}} {
		last := a.First + len(a.Rates) - 1
		for entry := a.First; entry <= last; entry += 1 + (last-a.First)/6 {
			for years := 0; entry+years <= last; years += 1 + (last-entry)/4 {
				do(fmt.Sprint(a.Name, " of ", len(a.Rates), " rates and the life ", entry, " ", years), a, api.Life{Entry: entry, Years: years})
			}
		}
	}
}

// 16.6: OfTable's years are the life's rates, at most MaxYears.
func TestOfTable(t *testing.T) {
	cut := 0
	eachLife(func(what string, a api.Table, l api.Life) {
		var wanted api.Chain
		for n := 0; ; n++ {
			q, e := table.Rate(a, l, n)
			if e != api.OK {
				break
			}
			if n == longest {
				cut++
				break
			}
			wanted.Steps = append(wanted.Steps, [][]int{{unit - q, q}, {0, unit}})
		}
		wanted.States = 2
		got, e := state.OfTable(a, l)
		want(t, "OfTable of "+what, tellChain(got, e), tellChain(wanted, api.OK))
		want(t, "Check of what OfTable makes", state.Check(got).Error(), api.OK.Error())
	})
	if cut != 1 {
		t.Error(cut, "lives have more rates than a chain years")
	}
	c, e := state.OfTable(longTable(0), api.Life{})
	if e != api.OK || len(c.Steps) != longest {
		t.Error("of all ages:", len(c.Steps), e)
	}
}

// 16.6: a table that is not right, by each of its errors, ahead of a life that is not of it.
func TestNoTable(t *testing.T) {
	changed := func(change func(a *api.Table)) api.Table {
		a := withSelect()
		change(&a)
		return a
	}
	for _, c := range []struct {
		a api.Table
		e api.Errno
	}{
		{api.Table{}, api.ErrForm},
		{changed(func(a *api.Table) { a.Name = "T" }), api.ErrForm},
		{changed(func(a *api.Table) { a.First = -1 }), api.ErrAge},
		{changed(func(a *api.Table) { a.First = api.MaxAge - 2 }), api.ErrAge},
		{changed(func(a *api.Table) { a.Rates = nil }), api.ErrAge},
		{changed(func(a *api.Table) { a.Rates = []int{1000000, 2000000, 5000000, unit - 1} }), api.ErrRates},
		{changed(func(a *api.Table) { a.Rates = []int{1000000, unit, 5000000, unit} }), api.ErrRates},
		{changed(func(a *api.Table) { a.Select[1] = nil }), api.ErrRates},
	} {
		for _, l := range []api.Life{{Entry: 60}, {Entry: -1, Years: -1}} {
			want(t, fmt.Sprint("OfTable of ", c.a), tellChain(state.OfTable(c.a, l)), refused(c.e))
		}
	}
}

// 16.6: a life that is not of the table.
func TestNoLife(t *testing.T) {
	for _, a := range []api.Table{ages(), withSelect()} {
		for _, l := range []api.Life{
			{}, {Entry: 59}, {Entry: 64}, {Entry: 60, Years: -1}, {Entry: 60, Years: 4}, {Entry: 63, Years: 1}, {Entry: 59, Years: 1}, {Entry: 61, Years: -1},
			{Entry: math.MaxInt}, {Entry: math.MinInt}, {Entry: 60, Years: math.MaxInt}, {Entry: 60, Years: math.MinInt}, {Entry: math.MaxInt, Years: math.MaxInt}, {Entry: math.MinInt, Years: math.MaxInt},
		} {
			want(t, fmt.Sprint("OfTable of ", l), tellChain(state.OfTable(a, l)), refused(api.ErrAge))
		}
	}
}
