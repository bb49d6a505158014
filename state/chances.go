package state

import (
	"tontine/api"
	"tontine/exact"
	"tontine/whole"
)

// Move is the chances of one who is in a state at one time to be in each state at another time, state by state (16.1).
func Move(c api.Chain, from, to int) ([][]api.Ratio, api.Errno) {
	if e := Check(c); e != api.OK {
		return nil, e
	}
	if e := checkTimes(c, from, to); e != api.OK {
		return nil, e
	}
	rows := make([][]api.Ratio, c.States)
	for state := range rows {
		row, e := moved(c, state, from, to)
		if e != api.OK {
			return nil, e
		}
		rows[state] = row
	}
	return rows, api.OK
}

// Chance is the chances to be in each state at a time, begun in one at the time 0 (16.2).
func Chance(c api.Chain, state, time int) ([]api.Ratio, api.Errno) {
	if e := checkStates(c, state); e != api.OK {
		return nil, e
	}
	if e := checkTimes(c, 0, time); e != api.OK {
		return nil, e
	}
	return moved(c, state, 0, time)
}

// Occupy is how many of the times from one to ahead of another one is in each state, in the mean (16.2).
func Occupy(c api.Chain, state, from, to int) ([]api.Ratio, api.Errno) {
	if e := checkStates(c, state); e != api.OK {
		return nil, e
	}
	if e := checkTimes(c, from, to); e != api.OK {
		return nil, e
	}
	sums, spread := make([]whole.Nat, c.States), begun(c, state)
	for t := range to {
		for i, part := range spread {
			sums[i] = sums[i].Mul(unit())
			if t >= from {
				sums[i] = sums[i].Add(part)
			}
		}
		spread = later(spread, c.Steps[t])
	}
	return exact.WriteParts(sums, unit().Pow(max(to-1, 0)))
}

// First is, for each time, the chance to be in a state then for the first time (16.2): who has come there is let go.
func First(c api.Chain, state, target int) ([]api.Ratio, api.Errno) {
	if e := checkStates(c, state, target); e != api.OK {
		return nil, e
	}
	chances, spread := make([]api.Ratio, len(c.Steps)+1), begun(c, state)
	for t := range chances {
		if t > 0 {
			spread = later(spread, c.Steps[t-1])
		}
		come, e := exact.WriteLowest(false, spread[target], unit().Pow(t))
		if e != api.OK {
			return nil, e
		}
		chances[t], spread[target] = come, whole.Nat{}
	}
	return chances, api.OK
}

// moved is the chances to be in each state at the time to of one who is in state at the time from.
func moved(c api.Chain, state, from, to int) ([]api.Ratio, api.Errno) {
	spread := begun(c, state)
	for _, rows := range c.Steps[from:to] {
		spread = later(spread, rows)
	}
	return exact.WriteParts(spread, unit().Pow(to-from))
}

// begun is how all are spread over the states who are in one of them. A spread is of whole numbers: chances by Unit to the number of years that have gone by.
func begun(c api.Chain, state int) []whole.Nat {
	spread := make([]whole.Nat, c.States)
	spread[state] = whole.Of(1)
	return spread
}

// later is a spread behind a year.
func later(spread []whole.Nat, rows [][]int) []whole.Nat {
	next := make([]whole.Nat, len(spread))
	for i, part := range spread {
		for j, step := range rows[i] {
			next[j] = next[j].Add(part.Mul(whole.Of(uint64(step))))
		}
	}
	return next
}

func unit() whole.Nat { return whole.Of(api.Unit) }
