package decrement_test

import (
	"fmt"
	"math/big"
	"strings"
	"testing"

	"tontine/api"
	"tontine/decrement"
)

// wantYears wants Stay and Gone to be what becomes of those who are there at an age.
func wantYears(t *testing.T, what string, c api.Causes, age, years int, f fates) (*big.Rat, []*big.Rat) {
	t.Helper()
	stay, gone := f.staying(years), f.leaving(years)
	what = fmt.Sprint(" of ", years, " years at ", age, " of ", what)
	want(t, "Stay"+what, tellRatio(decrement.Stay(c, age, years)), wanted(stay))
	want(t, "Gone"+what, tellRatios(decrement.Gone(c, age, years)), wantedAll(gone))
	return stay, gone
}

// 15.3: Stay and Gone of each number of years that is worth to be looked at, of few ages and of many; of so many that there are too many digits (R2).
func TestYears(t *testing.T) {
	long := 0
	look := func(what string, c api.Causes) {
		for _, age := range agesOf(c) {
			f := fatesOf(c, age)
			for _, years := range yearsOf(c, age) {
				stay, gone := wantYears(t, what, c, age, years, f)
				if digitsOf(stay) > api.MaxDigits || digitsOf(gone[0]) > api.MaxDigits {
					long++
				}
			}
		}
	}
	eachCauses(look)
	eachLongCauses(look)
	if long == 0 {
		t.Error("no answer was too long")
	}
}

// 15.3: no years: all stay, and none has left; past Last nobody stays, and no more leave than up to it.
func TestEdgesOfYears(t *testing.T) {
	eachCauses(func(what string, c api.Causes) {
		zeros := strings.TrimSpace(strings.Repeat("0/1 ", len(c.Rates)))
		for _, age := range agesOf(c) {
			left := lastOf(c) - age + 1
			want(t, "Stay of no year of "+what, tellRatio(decrement.Stay(c, age, 0)), "1/1")
			want(t, "Gone of no year of "+what, tellRatios(decrement.Gone(c, age, 0)), zeros)
			for _, years := range []int{left + 1, left + 2, longest} {
				want(t, fmt.Sprint("Stay past Last of ", what), tellRatio(decrement.Stay(c, age, years)), "0/1")
				want(t, fmt.Sprint("Gone past Last of ", what), tellRatios(decrement.Gone(c, age, years)), tellRatios(decrement.Gone(c, age, left)))
			}
		}
	})
	never := causesOf(0, 2, oldest+1, always(0))
	want(t, "Stay, nobody leaving", tellRatio(decrement.Stay(never, 0, longest)), "1/1")
	want(t, "Stay up to just Last, nobody leaving", tellRatio(decrement.Stay(never, 1, longest)), "1/1")
	want(t, "Stay past Last, nobody leaving", tellRatio(decrement.Stay(never, 2, longest)), "0/1")
	want(t, "Gone, nobody leaving", tellRatios(decrement.Gone(never, 2, longest)), "0/1 0/1")
	want(t, "Stay of two years", tellRatio(decrement.Stay(causesOf(30, 2, 2, func(cause, k int) int { return (1 + cause + k) * unit / 10 }), 30, 2)), "252/625") // 0.9 0.8 0.8 0.7
}

// R2, 15.3: Stay and Gone of just MaxDigits digits, and of one more: five causes, of which each takes so few that each year has seven digits more for each; the last year has fewer.
func TestLongestAnswers(t *testing.T) {
	stays, leaves := map[int]bool{}, map[int]bool{}
	for places := range 8 {
		c := causesOf(0, 5, 118, func(cause, k int) int {
			switch {
			case k < 117:
				return 1
			case cause < 4:
				return 0
			}
			return int(pow(10, places).Int64())
		})
		f := fatesOf(c, 0)
		for years := 116; years <= 118; years++ {
			stay, gone := wantYears(t, fmt.Sprint("causes with ", places, " places"), c, 0, years, f)
			stays[digitsOf(stay)] = true
			longestOne := 0
			for _, x := range gone {
				longestOne = max(longestOne, digitsOf(x))
			}
			leaves[longestOne] = true
		}
	}
	for _, digits := range []int{api.MaxDigits, api.MaxDigits + 1} {
		if !stays[digits] || !leaves[digits] {
			t.Error("no answer has just", digits, "digits:", stays, leaves)
		}
	}
}
