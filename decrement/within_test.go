package decrement_test

import (
	"fmt"
	"math/big"
	"strings"
	"testing"

	"tontine/api"
	"tontine/decrement"
)

// parts are parts of a year: both ends, just above and below them, and between.
func parts() []*big.Rat {
	tiny := new(big.Rat).SetFrac(big.NewInt(1), pow(10, 40))
	return []*big.Rat{rat(0, 1), rat(1, 1), rat(1, 2), rat(1, 3), rat(7, 9), rat(1, unit), tiny, minus(rat(1, 1), tiny)}
}

// leftBy is the chances to have left at an age up to a part of the year, cause by cause.
func leftBy(c api.Causes, age int, u *big.Rat) []*big.Rat {
	var l []*big.Rat
	rates := atAge(c, age)
	for cause := range rates {
		l = append(l, leftOf(rates, cause, u))
	}
	return l
}

// 15.2: the dependent rates, cause by cause, at each age.
func TestDependent(t *testing.T) {
	eachCauses(func(what string, c api.Causes) {
		for age := c.First; age <= lastOf(c); age++ {
			want(t, fmt.Sprint("Dependent at ", age, " of ", what), tellRatios(decrement.Dependent(c, age)), wantedAll(leftBy(c, age, rat(1, 1))))
		}
	})
	eachLongCauses(func(what string, c api.Causes) {
		for _, age := range agesOf(c) {
			want(t, fmt.Sprint("Dependent at ", age, " of ", what), tellRatios(decrement.Dependent(c, age)), wantedAll(leftBy(c, age, rat(1, 1))))
		}
	})
}

// 15.2: several causes whose rates are Unit: each takes as many as each other one, and nobody stays.
func TestAllAtOnce(t *testing.T) {
	for causes := 1; causes <= most; causes++ {
		c := causesOf(oldest, causes, 1, always(unit))
		want(t, "Dependent of all at once", tellRatios(decrement.Dependent(c, oldest)), strings.TrimSpace(strings.Repeat(rat(1, int64(causes)).String()+" ", causes)))
		want(t, "Stay of all at once", tellRatio(decrement.Stay(c, oldest, 1)), "0/1")
	}
}

// 15.2: what has left up to parts of the year.
func TestWithin(t *testing.T) {
	look := func(what string, c api.Causes) {
		for _, age := range agesOf(c) {
			for _, u := range parts() {
				want(t, fmt.Sprint("Within ", u, " at ", age, " of ", what), tellRatios(decrement.Within(c, age, ratioOf(u))), wantedAll(leftBy(c, age, u)))
			}
		}
	}
	eachCauses(look)
	eachLongCauses(look)
}

// R2, 15.2: parts of just so many digits that the answer has MaxDigits, or one more; parts as long as they may be.
func TestLongParts(t *testing.T) {
	tens := func(digits int) *big.Rat { return new(big.Rat).SetFrac(big.NewInt(1), pow(10, digits-1)) }
	seen := map[int]bool{}
	for _, c := range []api.Causes{causesOf(3, 1, 1, always(unit)), causesOf(3, 1, 1, always(unit/10)), causesOf(3, 2, 1, always(unit)), causesOf(3, most, 1, always(70)), causesOf(3, most, 1, func(cause, _ int) int { return cause % 7 / 6 * 1000 })} {
		for _, digits := range []int{api.MaxDigits, api.MaxDigits - 1, api.MaxDigits - 2, api.MaxDigits / 2, api.MaxDigits/2 + 1, 506, 505, 100} {
			for _, u := range []*big.Rat{tens(digits), minus(rat(1, 1), tens(digits))} {
				l := leftBy(c, 3, u)
				for _, x := range l {
					seen[digitsOf(x)] = true
				}
				want(t, fmt.Sprint("Within of ", digits, " digits of ", c), tellRatios(decrement.Within(c, 3, ratioOf(u))), wantedAll(l))
			}
		}
	}
	if !seen[api.MaxDigits] || !seen[api.MaxDigits+1] || !seen[api.MaxDigits-1] {
		t.Error("no answer was just long enough, or just too long")
	}
}
