package trial

import (
	"tontine/api"
	"tontine/exact"
	"tontine/whole"
)

// Signs is how many deviations are plus, minus, none (11.4).
func Signs(l []api.Cell) (plus, minus, none int, e api.Errno) {
	if e := Check(l); e != api.OK {
		return 0, 0, 0, e
	}
	for i := range len(l) {
		switch deviation := together(l[i : i+1]).deviation(); {
		case deviation > 0:
			plus++
		case deviation < 0:
			minus++
		default:
			none++
		}
	}
	return plus, minus, none, api.OK
}

// Runs is how many runs of pluses there are, and the chance that there are at most so many (11.4).
func Runs(l []api.Cell) (int, api.Ratio, api.Errno) {
	plus, minus, _, e := Signs(l)
	if e != api.OK {
		return 0, api.Ratio{}, e
	}
	runs := plusRuns(l)
	return runs, written(stevens(plus, minus, runs)), api.OK
}

// plusRuns is how many runs of pluses there are in right cells: a run goes on over deviations that are none, up to the next minus.
func plusRuns(l []api.Cell) int {
	runs, at := 0, 0
search:
	for at < len(l) {
		if together(l[at:at+1]).deviation() <= 0 {
			at++
			continue
		}
		runs++
		for ; at < len(l); at++ {
			if together(l[at:at+1]).deviation() < 0 {
				continue search
			}
		}
	}
	return runs
}

// stevens is the chance of at most so many runs of pluses, if all orders of pluses and minuses are as likely: so many runs are cut out of the pluses, and put ahead of, between and behind the minuses.
func stevens(plus, minus, runs int) exact.Fraction {
	if plus == 0 {
		return exact.OfInt(1)
	}
	cuts, places := terms(plus-1, 1, 1), terms(minus+1, 1, 1)
	places() // that of no run
	var orders whole.Nat
	for range runs {
		orders = orders.Add(cuts().Mul(places()))
	}
	return exact.Lowest(false, orders, ways(plus+minus, plus))
}

// SignTest is how likely it is that pluses and minuses are so unlike in number, or more (11.7).
func SignTest(l []api.Cell) (api.Ratio, api.Errno) {
	plus, minus, _, e := Signs(l)
	if e != api.OK {
		return api.Ratio{}, e
	}
	one, twice := exact.OfInt(1), exact.OfInt(2).Times(chance(plus+minus, 1, 1, min(plus, minus)))
	if twice.Cmp(one) > 0 {
		return written(one), api.OK
	}
	return written(twice), api.OK
}
