package value

import "tontine/api"

// payment is how much a benefit of which nothing is sure pays in the year k.
type payment func(f api.Benefit, k int) int

// kind is which payments the benefits of a kind make: now at the beginning of a year to one who is alive; at its end then to one who is alive, dead if one has died in it.
type kind struct {
	number          int
	now, then, dead payment
}

func kinds() []kind {
	return []kind{
		{number: api.BAssure, now: never, then: never, dead: yearly},
		{number: api.BEndow, now: never, then: atLast, dead: never},
		{number: api.BBoth, now: never, then: atLast, dead: yearly},
		{number: api.BDue, now: yearly, then: never, dead: never},
		{number: api.BLate, now: never, then: yearly, dead: never},
		{number: api.BRising, now: never, then: never, dead: rising},
		{number: api.BFalling, now: never, then: never, dead: falling},
	}
}

// kindOf is the kind with a number, or false, if there is none.
func kindOf(number int) (kind, bool) {
	for _, x := range kinds() {
		if x.number == number {
			return x, true
		}
	}
	return kind{}, false
}

func never(api.Benefit, int) int { return 0 }

// isOn tells whether the year k is one of the benefit's years.
func isOn(f api.Benefit, k int) bool { return f.Wait <= k && k < f.Wait+f.Term }

func yearly(f api.Benefit, k int) int {
	if !isOn(f, k) {
		return 0
	}
	return 1
}

func atLast(f api.Benefit, k int) int {
	if k+1 != f.Wait+f.Term {
		return 0
	}
	return 1
}

func rising(f api.Benefit, k int) int {
	if !isOn(f, k) {
		return 0
	}
	return k - f.Wait + 1
}

func falling(f api.Benefit, k int) int {
	if !isOn(f, k) {
		return 0
	}
	return f.Wait + f.Term - k
}

// mostSure is how many payments of a benefit of this kind may be sure.
func mostSure(f api.Benefit) int {
	if f.Kind == api.BDue || f.Kind == api.BLate {
		return f.Term
	}
	return 0
}

// sureTimes are the times of the payments that are sure.
func sureTimes(f api.Benefit) []int {
	first := f.Wait
	if f.Kind == api.BLate {
		first++
	}
	times := make([]int, f.Sure)
	for i := range f.Sure {
		times[i] = first + i
	}
	return times
}

// unsure is what a benefit pays besides what is sure. Its Wait may be greater than one that is right, and its Term may be 0: then it pays nothing.
func unsure(f api.Benefit) api.Benefit {
	return api.Benefit{Kind: f.Kind, Wait: f.Wait + f.Sure, Term: f.Term - f.Sure}
}
