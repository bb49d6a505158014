package decrement_test

import (
	"fmt"
	"math"
	"math/big"
	"math/rand"
	"slices"
	"testing"

	"tontine/api"
	"tontine/decrement"
)

// leavesFor is payments for so many years and causes: any amounts, both ends of the range among them.
func leavesFor(r *rand.Rand, years, causes int) []api.Leave {
	amount := func() int {
		return []int{0, 0, 1, api.MaxMoney, r.Intn(1000), r.Intn(api.MaxMoney)}[r.Intn(6)]
	}
	l := make([]api.Leave, years)
	for t := range l {
		l[t].Live = amount()
		for range causes {
			l[t].Gone = append(l[t].Gone, amount())
		}
	}
	return l
}

// worthOf is what is worth at the times 0, 1, 2 .., by the recursion of 15.6.
func worthOf(c api.Causes, rate, age int, l []api.Leave) []*big.Rat {
	v := rat(unit, int64(unit+rate))
	worth := []*big.Rat{new(big.Rat)}
	for t := len(l) - 1; t >= 0; t-- {
		rates := atAge(c, age+t)
		w := times(stayOf(rates, rat(1, 1)), plus(rat(int64(l[t].Live), 1), worth[0]))
		for cause, amount := range l[t].Gone {
			w = plus(w, times(leftOf(rates, cause, rat(1, 1)), rat(int64(amount), 1)))
		}
		worth = append([]*big.Rat{times(v, w)}, worth...)
	}
	return worth
}

// yearsFrom are how many years may be paid for from an age on: one, all up to Last, and between.
func yearsFrom(c api.Causes, age int) []int {
	var years []int
	for _, n := range yearsOf(c, age) {
		if n > 0 && age+n-1 <= lastOf(c) {
			years = append(years, n)
		}
	}
	return years
}

// 15.6: what any payments are worth, of few ages and of many, of so many that there are too many digits (R2).
func TestWorth(t *testing.T) {
	r := random(156)
	long, right := 0, 0
	look := func(what string, c api.Causes) {
		for _, age := range agesOf(c) {
			for _, years := range yearsFrom(c, age) {
				rate := interests[r.Intn(len(interests))]
				l := leavesFor(r, years, len(c.Rates))
				wanted := wantedAll(worthOf(c, rate, age, l))
				if wanted == refused(api.ErrLong) {
					long++
				} else {
					right++
				}
				want(t, fmt.Sprint("Worth of ", years, " years at ", age, " and ", rate, " of ", what), tellRatios(decrement.Worth(c, rate, age, l)), wanted)
			}
		}
	}
	eachCauses(look)
	eachLongCauses(look)
	if long == 0 || right == 0 {
		t.Error(long, "answers were too long,", right, "were not")
	}
}

// R2, 15.6: answers of just MaxDigits digits, and of one more, as the first year has none, or some.
func TestLongestWorth(t *testing.T) {
	seen := map[int]bool{}
	for places := range 8 {
		for years := 117; years <= 118; years++ {
			c := causesOf(0, 5, 118, func(cause, k int) int {
				switch {
				case k > 0:
					return 1
				case cause < 4:
					return 0
				}
				return int(pow(10, places).Int64()) % unit
			})
			l := make([]api.Leave, years)
			for k := range l {
				l[k].Gone = make([]int, 5)
			}
			l[years-1].Live = 1
			worth := worthOf(c, 0, 0, l)
			seen[digitsOf(worth[0])] = true
			want(t, fmt.Sprint("Worth of ", places, " places in ", years), tellRatios(decrement.Worth(c, 0, 0, l)), wantedAll(worth))
		}
	}
	if !seen[api.MaxDigits] || !seen[api.MaxDigits+1] {
		t.Error("no answer was just long enough, or just too long:", seen)
	}
}

// 15.6: nothing is to be paid, and all is paid at once, to those who stay and to those who go.
func TestPlainWorth(t *testing.T) {
	c := causesOf(30, 2, 2, func(cause, k int) int { return (1 + cause + k) * unit / 10 })
	none := api.Leave{Gone: []int{0, 0}}
	hundred := api.Leave{Live: 100, Gone: []int{100, 100}}
	for _, w := range []struct {
		rate   int
		l      []api.Leave
		wanted string
	}{
		{0, []api.Leave{none, none}, "0/1 0/1 0/1"},
		{0, []api.Leave{hundred}, "100/1 0/1"},
		{unit, []api.Leave{hundred}, "50/1 0/1"},
		{unit, []api.Leave{none, hundred}, "18/1 50/1 0/1"}, // 0.72 of 50, a year earlier
		{0, []api.Leave{{Gone: []int{0, 100}}, none}, "19/1 0/1 0/1"},
		{0, []api.Leave{{Gone: []int{100, 0}}, none}, "9/1 0/1 0/1"},
		{0, []api.Leave{{Live: 100, Gone: []int{0, 0}}, none}, "72/1 0/1 0/1"},
	} {
		want(t, fmt.Sprint("Worth of ", w.l), tellRatios(decrement.Worth(c, w.rate, 30, w.l)), w.wanted)
	}
}

// 15.6: a rate of interest out of its range, ahead of wrong payments, behind a wrong age; both ends of the range are rates.
func TestNoInterest(t *testing.T) {
	eachCauses(func(what string, c api.Causes) {
		right := leavesFor(random(1), 1, len(c.Rates))
		for _, rate := range []int{-1, -unit, -unit - 1, api.MaxRate + 1, math.MinInt, math.MaxInt} {
			for _, l := range [][]api.Leave{right, nil, make([]api.Leave, longest+1)} {
				want(t, fmt.Sprint("Worth at ", rate, " of ", what), tellRatios(decrement.Worth(c, rate, c.First, l)), refused(api.ErrRange))
				want(t, fmt.Sprint("Worth at ", rate, " of no age of ", what), tellRatios(decrement.Worth(c, rate, c.First-1, l)), refused(api.ErrAge))
			}
		}
		for _, rate := range []int{0, api.MaxRate} {
			want(t, fmt.Sprint("Worth at ", rate, " of ", what), tellRatios(decrement.Worth(c, rate, lastOf(c), right)), wantedAll(worthOf(c, rate, lastOf(c), right)))
		}
	})
}

// 15.6: no payments, and too many; with a Gone of one member too few and too many, at each time, however many there are (R3); all ahead of years beyond Last.
func TestNoLeaves(t *testing.T) {
	eachCauses(func(what string, c api.Causes) {
		m := len(c.Rates)
		refuse := func(l []api.Leave) {
			t.Helper()
			for _, age := range agesOf(c) {
				want(t, fmt.Sprint("Worth of ", len(l), " years of ", what), tellRatios(decrement.Worth(c, 5, age, l)), refused(api.ErrLeaves))
			}
		}
		refuse(nil)
		refuse([]api.Leave{})
		refuse(leavesFor(random(2), longest+1, m))
		refuse(leavesFor(random(3), api.MaxItems+1, m))
		for k := range 3 {
			for _, count := range []int{0, m - 1, m + 1, most + 1, api.MaxItems + 1} {
				l := leavesFor(random(4), 3, m)
				l[k].Gone = make([]int, count)
				refuse(l)
			}
		}
	})
	refuseAll := causesOf(0, 1, oldest+1, always(0))
	want(t, "Worth of as many years as ages", tellRatios(decrement.Worth(refuseAll, 0, 0, leavesFor(random(5), oldest+1, 1))), refused(api.ErrLeaves))
}

// 15.6: an amount below nought or above MaxMoney, at each place; both ends of the range are amounts.
func TestNoAmounts(t *testing.T) {
	c := causesOf(60, 3, 4, always(1000))
	for k := range 4 {
		for place := range 4 {
			with := func(amount int) []api.Leave {
				l := leavesFor(random(6), 4, 3)
				if place == 3 {
					l[k].Live = amount
				} else {
					l[k].Gone[place] = amount
				}
				return l
			}
			for _, amount := range []int{-1, -api.MaxMoney, api.MaxMoney + 1, math.MinInt, math.MaxInt} {
				for _, age := range []int{60, 61} { // at 61 there are too many years, too
					want(t, fmt.Sprint("Worth of ", amount, " at ", k, " ", place), tellRatios(decrement.Worth(c, 5, age, with(amount))), refused(api.ErrLeaves))
				}
			}
			for _, amount := range []int{0, api.MaxMoney} {
				want(t, fmt.Sprint("Worth of ", amount, " at ", k, " ", place), tellRatios(decrement.Worth(c, 5, 60, with(amount))), wantedAll(worthOf(c, 5, 60, with(amount))))
			}
		}
	}
}

// 15.6: payments up to just Last, and past it.
func TestWorthPastLast(t *testing.T) {
	look := func(what string, c api.Causes) {
		for _, age := range agesOf(c) {
			left := lastOf(c) - age + 1
			for _, years := range []int{left + 1, left + 2, longest} {
				if years <= longest && years > left {
					want(t, fmt.Sprint("Worth of ", years, " years at ", age, " of ", what), tellRatios(decrement.Worth(c, 5, age, leavesFor(random(7), years, len(c.Rates)))), refused(api.ErrAge))
				}
			}
			if got := tellRatios(decrement.Worth(c, 5, age, leavesFor(random(8), min(left, longest), len(c.Rates)))); slices.Contains([]string{refused(api.ErrAge), refused(api.ErrLeaves)}, got) {
				t.Error(what, age, got)
			}
		}
	}
	eachCauses(look)
	eachLongCauses(look)
	c := causesOf(0, 1, oldest+1, always(0))
	paid := leavesFor(random(9), longest, 1)
	for age := range 2 {
		want(t, fmt.Sprint("Worth of all years at ", age), tellRatios(decrement.Worth(c, 0, age, paid)), wantedAll(worthOf(c, 0, age, paid)))
	}
	want(t, "Worth of all years at 2", tellRatios(decrement.Worth(c, 0, 2, paid)), refused(api.ErrAge))
}
