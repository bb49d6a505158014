package trial_test

import (
	"fmt"
	"math/rand"
	"testing"

	"tontine/api"
	"tontine/trial"
)

// grouped is what Groups should tell, by the words of 11.3.
func grouped(l []api.Cell, least int) string {
	var groups [][2]int
	from := 0
	for i := range l {
		if sum(l[from:i+1], expected).Cmp(whole(least)) >= 0 {
			groups = append(groups, [2]int{from, i})
			from = i + 1
		}
	}
	switch n := len(groups); {
	case from == len(l):
	case n > 0:
		groups[n-1][1] = len(l) - 1
	default:
		groups = append(groups, [2]int{0, len(l) - 1})
	}
	told := make([]api.Group, len(groups))
	for i, g := range groups {
		part := l[g[0] : g[1]+1]
		told[i] = api.Group{From: g[0], To: g[1], Deaths: deaths(part), Expected: fromBig(sum(part, expected)), Spread: fromBig(sum(part, spread))}
	}
	return tellGroups(told, api.OK)
}

// leasts are numbers that a group may be asked to expect, of these cells.
func leasts(r *rand.Rand, l []api.Cell) []int {
	of := []int{0, 1, 2, 10, 1 + r.Intn(100), r.Intn(exposed), exposed - 1, exposed}
	if len(l) > 0 { // about what the front comes to, and all
		for _, n := range []int{1 + r.Intn(len(l)), len(l)} {
			front, _ := sum(l[:n], expected).Float64()
			of = append(of, min(int(front), exposed), min(int(front)+1, exposed))
		}
	}
	return of
}

// 11.3: any cells, put together by any number.
func TestGroups(t *testing.T) {
	lists(113, 400, func(r *rand.Rand, l []api.Cell) {
		for _, least := range leasts(r, l) {
			want(t, fmt.Sprint("Groups ", l, " ", least), tellGroups(trial.Groups(l, least)), grouped(l, least))
		}
	})
}

// 11.3: at the edges: no cell; each by itself; just as many as are asked for, and a ten-millionth less; what is left, if there is a group, and if there is none.
func TestGroupsAtEdges(t *testing.T) {
	nothing, some := cell(5, 0, 0), cell(2, 1, 5000000) // 1 is expected of the second one, its spread is 1/2
	for _, c := range []struct {
		l      []api.Cell
		least  int
		wanted string
	}{
		{nil, 0, ""}, {nil, 1, ""}, {nil, exposed, ""},
		{list(nothing), 0, "0 to 0: 0 0/1 0/1"}, {list(nothing), 1, "0 to 0: 0 0/1 0/1"}, {list(nothing, nothing), 1, "0 to 1: 0 0/1 0/1"}, {list(nothing, nothing), 0, "0 to 0: 0 0/1 0/1; 1 to 1: 0 0/1 0/1"},
		{list(some, some), 0, "0 to 0: 1 1/1 1/2; 1 to 1: 1 1/1 1/2"}, {list(some, some), 1, "0 to 0: 1 1/1 1/2; 1 to 1: 1 1/1 1/2"}, {list(some, some), 2, "0 to 1: 2 2/1 1/1"}, {list(some, some), 3, "0 to 1: 2 2/1 1/1"}, {list(some, some, some), 2, "0 to 2: 3 3/1 3/2"}, {list(some, some, some, some), 2, "0 to 1: 2 2/1 1/1; 2 to 3: 2 2/1 1/1"},
		{list(some, nothing), 1, "0 to 1: 1 1/1 1/2"}, {list(nothing, some), 1, "0 to 1: 1 1/1 1/2"}, {list(some, nothing, some), 1, "0 to 0: 1 1/1 1/2; 1 to 2: 1 1/1 1/2"}, {list(some, nothing, some, nothing, nothing), 1, "0 to 0: 1 1/1 1/2; 1 to 4: 1 1/1 1/2"}, {list(some, nothing), 0, "0 to 0: 1 1/1 1/2; 1 to 1: 0 0/1 0/1"},
		{list(cell(exposed, 7, api.Unit)), exposed, "0 to 0: 7 1000000000/1 0/1"}, {repeated(cell(exposed, exposed, api.Unit), 2), exposed, "0 to 0: 1000000000 1000000000/1 0/1; 1 to 1: 1000000000 1000000000/1 0/1"},
		{list(cell(api.Unit-1, 0, api.Unit), cell(1, 0, api.Unit-1), some), api.Unit, "0 to 2: 1 100000009999999/10000000 50000009999999/100000000000000"},
	} {
		want(t, fmt.Sprint("Groups ", c.l, " ", c.least), tellGroups(trial.Groups(c.l, c.least)), c.wanted)
		want(t, fmt.Sprint("Groups by another way ", c.l, " ", c.least), grouped(c.l, c.least), c.wanted)
	}
	sure := repeated(cell(10, 10, api.Unit), 2)
	want(t, "Groups of just as many", tellGroups(trial.Groups(append(list(cell(9, 9, api.Unit), cell(1, 1, api.Unit)), sure...), 10)), "0 to 1: 10 10/1 0/1; 2 to 2: 10 10/1 0/1; 3 to 3: 10 10/1 0/1")
	want(t, "Groups of a ten-millionth less", tellGroups(trial.Groups(append(list(cell(9, 9, api.Unit), cell(1, 1, api.Unit-1)), sure...), 10)), "0 to 2: 20 199999999/10000000 9999999/100000000000000; 3 to 3: 10 10/1 0/1")
	want(t, "Groups of many", tellGroups(trial.Groups(repeated(cell(exposed, exposed, api.Unit/2), cells), 0)), grouped(repeated(cell(exposed, exposed, api.Unit/2), cells), 0))
	full := repeated(cell(exposed/cells, exposed/cells, api.Unit), cells) // all of them together do not expect 10^9
	want(t, "Groups of the most that is too little", tellGroups(trial.Groups(full, exposed)), fmt.Sprint("0 to 255: ", exposed/cells*cells, " ", exposed/cells*cells, "/1 0/1"))
}
