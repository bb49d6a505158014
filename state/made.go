package state

import (
	"slices"

	"tontine/api"
	"tontine/coming"
)

// Lump is a chain whose states are groups of a chain's states (16.5).
func Lump(c api.Chain, groups []int) (api.Chain, api.Errno) {
	if e := Check(c); e != api.OK {
		return api.Chain{}, e
	}
	if len(groups) != c.States {
		return api.Chain{}, api.ErrPairs
	}
	lumped := api.Chain{}
	for _, group := range groups {
		if group < 0 || group > lumped.States {
			return api.Chain{}, api.ErrState
		}
		lumped.States = max(lumped.States, group+1)
	}
	for _, rows := range c.Steps {
		together, e := lumpedYear(rows, groups, lumped.States)
		if e != api.OK {
			return api.Chain{}, e
		}
		lumped.Steps = append(lumped.Steps, together)
	}
	return lumped, api.OK
}

// lumpedYear is the chances to come from group to group, if they are the same for all states of one group.
func lumpedYear(rows [][]int, groups []int, count int) ([][]int, api.Errno) {
	together := make([][]int, count)
	for i, row := range rows {
		sums := make([]int, count)
		for j, step := range row {
			sums[groups[j]] += step
		}
		of := &together[groups[i]]
		if *of != nil && !slices.Equal(*of, sums) {
			return nil, api.ErrChain
		}
		*of = sums
	}
	return together, api.OK
}

// OfTable is a chain of a life: in the state 0 it is alive, in the state 1 dead (16.6).
func OfTable(t api.Table, l api.Life) (api.Chain, api.Errno) {
	rates, e := coming.Rates(api.Basis{Table: t}, l)
	if e != api.OK {
		return api.Chain{}, e
	}
	c := api.Chain{States: 2}
	for _, q := range rates[:min(len(rates), api.MaxYears)] {
		c.Steps = append(c.Steps, [][]int{{api.Unit - q, q}, {0, api.Unit}})
	}
	return c, api.OK
}
