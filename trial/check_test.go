package trial_test

import (
	"fmt"
	"math"
	"testing"

	"tontine/api"
	"tontine/trial"
)

// cellCalls are all calls that are given cells.
func cellCalls() map[string]func(l []api.Cell) string {
	return map[string]func(l []api.Cell) string{
		"Check":    func(l []api.Cell) string { return tellErrno(trial.Check(l)) },
		"Expected": func(l []api.Cell) string { return tellLists(trial.Expected(l)) },
		"Square":   func(l []api.Cell) string { return tellCounted(trial.Square(l)) },
		"Groups":   func(l []api.Cell) string { return tellGroups(trial.Groups(l, 5)) },
		"Groups by what is out of its range": func(l []api.Cell) string {
			return tellGroups(trial.Groups(l, -1))
		},
		"Signs":    func(l []api.Cell) string { return tellSigns(trial.Signs(l)) },
		"Runs":     func(l []api.Cell) string { return tellRuns(trial.Runs(l)) },
		"Total":    func(l []api.Cell) string { return tellTwo(trial.Total(l)) },
		"Distance": func(l []api.Cell) string { return tell(trial.Distance(l)) },
		"SignTest": func(l []api.Cell) string { return tell(trial.SignTest(l)) },
	}
}

// 11.1: right cells, at the ends of all ranges; no cell, one, and as many as there may be.
func TestCheckRight(t *testing.T) {
	right := list(cell(0, 0, 0), cell(0, 0, api.Unit), cell(0, 0, 5), cell(1, 0, 0), cell(1, 1, 0), cell(1, 1, api.Unit), cell(7, 0, 1), cell(7, 7, api.Unit-1), cell(7, 3, 2000000), cell(exposed, 0, 0), cell(exposed, exposed, api.Unit), cell(exposed, exposed-1, api.Unit), cell(exposed, 5, 5))
	for _, c := range right {
		want(t, fmt.Sprint("Check ", c), tellErrno(trial.Check(list(c))), "right")
		want(t, fmt.Sprint("Check many ", c), tellErrno(trial.Check(repeated(c, cells))), "right")
	}
	want(t, "Check all", tellErrno(trial.Check(right)), "right")
	want(t, "Check none", tellErrno(trial.Check(nil)), "right")
	r := random(1)
	for range 200 {
		want(t, "Check any", tellErrno(trial.Check(anyCells(r, r.Intn(cells+1)))), "right")
	}
}

// 11.1: cells that are not right, wherever they stand; ahead of what could not be, of what cannot be divided, and of what is wrong behind them.
func TestCheckWrong(t *testing.T) {
	for name, call := range cellCalls() {
		for _, c := range noCells() {
			what := fmt.Sprint(name, " ", c)
			want(t, what, call(list(c)), refused(api.ErrCells))
			want(t, what, call(repeated(c, cells)), refused(api.ErrCells))
			for _, at := range []int{0, 1, 100, cells - 1} {
				for _, other := range list(up, down, even, cell(10, 1, 0), cell(10, 0, 0), cell(0, 0, 0)) {
					want(t, fmt.Sprint(what, " beside ", other), call(with(repeated(other, cells), at, c)), refused(api.ErrCells))
				}
			}
		}
	}
}

// 11.1, R3: more than 256 cells, ahead of such that are not right.
func TestCheckLong(t *testing.T) {
	for name, call := range cellCalls() {
		for _, c := range append(noCells(), up, down, even, cell(10, 1, 0), cell(0, 0, 0)) {
			for _, count := range []int{cells + 1, 1000, api.MaxItems, api.MaxItems + 1} {
				want(t, fmt.Sprint(name, " of ", count), call(repeated(c, count)), refused(api.ErrLong))
			}
		}
		if name != "Groups by what is out of its range" {
			l := repeated(up, cells)
			want(t, name+" of as many as there may be", fmt.Sprint(call(l) != refused(api.ErrLong) && call(l) != refused(api.ErrCells)), "true")
		}
	}
}

// 11.3: least out of its range, behind what is wrong with the cells.
func TestGroupsWrong(t *testing.T) {
	for _, least := range []int{-1, exposed + 1, -exposed, 2 * exposed, math.MinInt, math.MaxInt, math.MaxInt / api.Unit} {
		for _, l := range [][]api.Cell{nil, signed("+"), signed("+-0"), list(cell(10, 1, 0)), repeated(cell(exposed, 0, api.Unit), cells)} {
			want(t, fmt.Sprint("Groups ", least), tellGroups(trial.Groups(l, least)), refused(api.ErrRange))
		}
		want(t, fmt.Sprint("Groups of wrong cells ", least), tellGroups(trial.Groups(noCells()[:1], least)), refused(api.ErrCells))
		want(t, fmt.Sprint("Groups of too many ", least), tellGroups(trial.Groups(repeated(up, cells+1), least)), refused(api.ErrLong))
	}
}

// noTrials are no numbers of trials, noRates no rates.
var (
	noTrials = []int{-1, trial.MaxTrials + 1, -trial.MaxTrials, 1 << 20, math.MinInt, math.MaxInt}
	noRates  = []int{-1, api.Unit + 1, -api.Unit, 2 * api.Unit, math.MinInt, math.MaxInt}
)

// 11.6: numbers of trials and rates out of their range, whatever k is.
func TestTrialsWrong(t *testing.T) {
	for _, k := range []int{0, 1, -1, 5, trial.MaxTrials, trial.MaxTrials + 1, math.MinInt, math.MaxInt} {
		for _, n := range noTrials {
			want(t, fmt.Sprint("Ways ", n, " ", k), tellText(trial.Ways(n, k)), refused(api.ErrRange))
			for _, rate := range append([]int{0, 1, api.Unit}, noRates...) {
				want(t, fmt.Sprint("Binomial ", n, " ", rate, " ", k), tell(trial.Binomial(n, rate, k)), refused(api.ErrRange))
			}
		}
		for _, rate := range noRates {
			for _, n := range []int{0, 1, trial.MaxTrials} {
				want(t, fmt.Sprint("Binomial ", n, " ", rate, " ", k), tell(trial.Binomial(n, rate, k)), refused(api.ErrRange))
			}
		}
	}
}

// 11.6, R1: Quantile's errors: of the trials and the rate ahead of those of the part.
func TestQuantileWrong(t *testing.T) {
	parts := noParts()
	for part, e := range parts {
		for _, n := range []int{0, 1, 4, trial.MaxTrials} {
			for _, rate := range []int{0, 1, api.Unit / 2, api.Unit} {
				want(t, fmt.Sprint("Quantile ", n, " ", rate, " ", part), tellInt(trial.Quantile(n, rate, part)), refused(e))
			}
		}
	}
	for _, part := range []string{"0", "1", "1/2"} {
		parts[of(part)] = api.OK
	}
	for part := range parts {
		for _, n := range noTrials {
			for _, rate := range append([]int{0, api.Unit}, noRates...) {
				want(t, fmt.Sprint("Quantile ", n, " ", rate, " ", part), tellInt(trial.Quantile(n, rate, part)), refused(api.ErrRange))
			}
		}
		for _, rate := range noRates {
			for _, n := range []int{0, 4, trial.MaxTrials} {
				want(t, fmt.Sprint("Quantile ", n, " ", rate, " ", part), tellInt(trial.Quantile(n, rate, part)), refused(api.ErrRange))
			}
		}
	}
}
