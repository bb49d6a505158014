package state_test

import (
	"fmt"
	"math"
	"math/bits"
	"slices"
	"testing"

	"tontine/api"
	"tontine/state"
)

// callsOf are all calls that are given a chain; if wrong, with all wrong that stands behind it.
func callsOf(wrong bool) map[string]func(c api.Chain) string {
	at, rate, years := 0, 250000, 1
	paid, groups := noStaysFor, each
	if wrong {
		at, rate, years = -1, -1, -1
		paid, groups = func(api.Chain) api.Stays { return api.Stays{Stay: [][]int{{math.MaxInt}}} }, func(api.Chain) []int { return nil }
	}
	return map[string]func(c api.Chain) string{
		"Check":  func(c api.Chain) string { return state.Check(c).Error() },
		"Move":   func(c api.Chain) string { return tellRatioRows(state.Move(c, at, years)) },
		"Chance": func(c api.Chain) string { return tellRatios(state.Chance(c, at, years)) },
		"Occupy": func(c api.Chain) string { return tellRatios(state.Occupy(c, at, at, years)) },
		"First":  func(c api.Chain) string { return tellRatios(state.First(c, at, at)) },
		"Values": func(c api.Chain) string { return tellRatioRows(state.Values(c, rate, paid(c))) },
		"Floats": func(c api.Chain) string { return tellFloatRows(state.Floats(c, rate, paid(c))) },
		"Spans":  func(c api.Chain) string { return tellSpanRows(state.Spans(c, rate, paid(c))) },
		"Level":  func(c api.Chain) string { return tellRatio(state.Level(c, rate, paid(c), at, years)) },
		"Lump":   func(c api.Chain) string { return tellChain(state.Lump(c, groups(c))) },
	}
}

// noStaysFor is payments of nothing, of a chain's sizes, if it has any.
func noStaysFor(c api.Chain) api.Stays {
	if c.States < 1 || c.States > most+1 {
		return api.Stays{}
	}
	return noStays(c)
}

// each is the groups of which each has one state; of a chain of no or too many states any list.
func each(c api.Chain) []int {
	l := make([]int, max(0, min(c.States, most+1)))
	for i := range l {
		l[i] = i
	}
	return l
}

// wantNone wants each call to tell that a chain is not right, whatever else is wrong behind it.
func wantNone(t *testing.T, what string, c api.Chain) {
	t.Helper()
	for _, wrong := range []bool{false, true} {
		for name, call := range callsOf(wrong) {
			want(t, name+" of "+what, call(c), refused(api.ErrChain))
		}
	}
}

// wantRight wants Check to tell that a chain is right, and no other call to tell that it is not.
func wantRight(t *testing.T, what string, c api.Chain) {
	t.Helper()
	want(t, "Check of "+what, state.Check(c).Error(), api.OK.Error())
	for name, call := range callsOf(false) {
		if call(c) == refused(api.ErrChain) {
			t.Error(name, "of", what, "tells that there is no such chain")
		}
	}
}

// 16.1: right chains: of each number of states, of one year and of MaxYears, with chances at both ends of their range at each place.
func TestRightChains(t *testing.T) {
	look := func(what string, c api.Chain) { wantRight(t, what, c) }
	eachChain(look)
	eachLongChain(look)
	for states := 1; states <= most; states++ {
		for _, n := range []int{1, 2, longest - 1, longest} {
			look(fmt.Sprint(states, " states, ", n, " years"), stays(states, n))
		}
		for i := range states {
			for j := range states {
				look(fmt.Sprint("from ", i, " to ", j), chainOf(states, 1, func(_, k int) []int {
					if k == i {
						return only(states, j, unit)
					}
					return only(states, k, unit)
				}))
			}
		}
	}
}

// 16.1: chains of sizes that are not right, also far too long ones (R3).
func TestNoChains(t *testing.T) {
	two := func(change func(c *api.Chain)) api.Chain {
		c := stays(2, 3)
		change(&c)
		return c
	}
	one := [][][]int{{{unit}}}
	for what, c := range map[string]api.Chain{
		"nothing":               {},
		"one state, no years":   {States: 1},
		"no years":              {States: 2, Steps: [][][]int{}},
		"no states":             {Steps: [][][]int{{}}},
		"no states, a row":      {Steps: one},
		"States below 0":        {States: -1, Steps: one},
		"the least States":      {States: math.MinInt, Steps: one},
		"the greatest States":   {States: math.MaxInt, Steps: one},
		"one state too many":    stays(most+1, 1),
		"a year too many":       stays(2, longest+1),
		"far too many years":    stays(1, api.MaxItems+1),
		"States too few":        two(func(c *api.Chain) { c.States = 1 }),
		"States too many":       two(func(c *api.Chain) { c.States = 3 }),
		"a row too few":         two(func(c *api.Chain) { c.Steps[1] = c.Steps[1][:1] }),
		"a row too many":        two(func(c *api.Chain) { c.Steps[2] = append(c.Steps[2], []int{0, unit}) }),
		"an empty row too many": two(func(c *api.Chain) { c.Steps[2] = append(c.Steps[2], nil) }),
		"a year of none":        two(func(c *api.Chain) { c.Steps[0] = nil }),
		"far too many rows":     two(func(c *api.Chain) { c.Steps[0] = slices.Repeat([][]int{{0, unit}}, api.MaxItems+1) }),
		"an int too few":        two(func(c *api.Chain) { c.Steps[2][0] = []int{unit} }),
		"an int too many":       two(func(c *api.Chain) { c.Steps[0][1] = []int{0, unit, 0} }),
		"a row of none":         two(func(c *api.Chain) { c.Steps[1][1] = nil }),
		"far too many ints":     two(func(c *api.Chain) { c.Steps[1][0] = append([]int{unit}, make([]int, api.MaxItems)...) }),
	} {
		wantNone(t, what, c)
	}
}

// 16.1: a row with an int out of its range, or that sums to one too few or too many, at each place; also ints whose sum only wraps round to Unit.
func TestNoRows(t *testing.T) {
	for _, row := range [][]int{
		{0, 0, 0}, {unit, 1, 0}, {unit - 1, 0, 0}, {0, unit, 1}, {1, 0, unit}, {0, 0, unit + 1}, {unit + 1, 0, 0}, {unit, unit, 0}, {unit / 2, unit / 2, 1}, {unit / 2, unit/2 - 1, 0},
		{-1, unit + 1, 0}, {unit + 1, -1, 0}, {unit, -1, 1}, {1, unit, -1}, {0, -unit, 2 * unit}, {-1, unit, 0}, {-1, 1, unit},
		{math.MaxInt, math.MaxInt, unit + 2}, {math.MinInt, math.MinInt, unit}, {unit, math.MinInt, math.MinInt}, {math.MaxInt, math.MinInt, unit + 1}, {math.MinInt, 0, 0}, {0, math.MaxInt, 0},
	} {
		for y := range 3 {
			for i := range 3 {
				c := sample(3)
				c.Steps[y][i] = row
				wantNone(t, fmt.Sprint("the row ", row, " at ", y, " ", i), c)
			}
		}
	}
}

// R1: of several wrong arguments the first one is told, as the chapter orders them. Each bit of wrong makes one argument wrong.
func wantFirst(t *testing.T, name string, errors []api.Errno, call func(wrong int) string) {
	t.Helper()
	for wrong := 1; wrong < 1<<len(errors); wrong++ {
		want(t, fmt.Sprintf("%s, wrong %b", name, wrong), call(wrong), refused(errors[bits.TrailingZeros(uint(wrong))]))
	}
}

// pick is good, or, if that bit of wrong is set, bad.
func pick[T any](wrong, bit int, good, bad T) T {
	if wrong>>bit&1 == 1 {
		return bad
	}
	return good
}

// R1, 16.1 to 16.5: which of several errors comes first.
func TestWhichErrorIsFirst(t *testing.T) {
	chain := func(wrong int) api.Chain { return pick(wrong, 0, sample(2), api.Chain{States: 3}) }
	wantFirst(t, "Move", []api.Errno{api.ErrChain, api.ErrRange}, func(w int) string {
		return tellRatioRows(state.Move(chain(w), 0, pick(w, 1, 2, 3)))
	})
	wantFirst(t, "Chance", []api.Errno{api.ErrChain, api.ErrState, api.ErrRange}, func(w int) string {
		return tellRatios(state.Chance(chain(w), pick(w, 1, 2, 3), pick(w, 2, 2, 3)))
	})
	wantFirst(t, "Occupy", []api.Errno{api.ErrChain, api.ErrState, api.ErrRange}, func(w int) string {
		return tellRatios(state.Occupy(chain(w), pick(w, 1, 0, -1), pick(w, 2, 1, -1), 2))
	})
	wantFirst(t, "First", []api.Errno{api.ErrChain, api.ErrState}, func(w int) string {
		return tellRatios(state.First(chain(w), 0, pick(w, 1, 2, 3)))
	})
	// Sizes are looked at ahead of amounts: the last size of all is wrong, the first amount of all.
	paid := func(w, bit int) api.Stays {
		p := noStays(sample(2))
		p.Stay[0][0] = pick(w, bit+1, 0, api.MaxMoney+1)
		p.Move[1][2] = pick(w, bit, p.Move[1][2], []int{0, 0})
		return p
	}
	worth := []api.Errno{api.ErrChain, api.ErrRange, api.ErrStays, api.ErrMoney}
	wantFirst(t, "Values", worth, func(w int) string {
		return tellRatioRows(state.Values(chain(w), pick(w, 1, 5, -1), paid(w, 2)))
	})
	wantFirst(t, "Floats", worth, func(w int) string {
		return tellFloatRows(state.Floats(chain(w), pick(w, 1, 5, api.MaxRate+1), paid(w, 2)))
	})
	wantFirst(t, "Spans", worth, func(w int) string {
		return tellSpanRows(state.Spans(chain(w), pick(w, 1, 5, -1), paid(w, 2)))
	})
	for _, years := range []int{0, 3} {
		wantFirst(t, "Level", append(worth, api.ErrState), func(w int) string {
			return tellRatio(state.Level(chain(w), pick(w, 1, 5, -1), paid(w, 2), pick(w, 4, 0, 3), years))
		})
	}
	wantFirst(t, "Lump", []api.Errno{api.ErrChain, api.ErrPairs}, func(w int) string {
		return tellChain(state.Lump(chain(w), pick(w, 1, []int{0, 0, 0}, []int{-1, 0})))
	})
	want(t, "Lump, no such groups of states that are unlike", tellChain(state.Lump(sample(2), []int{0, 0, 2})), refused(api.ErrState))
}
