package money_test

import (
	"fmt"
	"math"
	"math/big"
	"strconv"
	"testing"

	"tontine/api"
	"tontine/money"
)

// 6.1: each way, of halves and others, above and below nought.
func TestAmountByEachWay(t *testing.T) {
	for text, wanted := range map[string]string{ // floor, ceil, down, up, half up, half even
		"5/2": "2 3 2 3 3 2", "-5/2": "-3 -2 -2 -3 -3 -2", "7/2": "3 4 3 4 4 4", "-7/2": "-4 -3 -3 -4 -4 -4",
		"1/2": "0 1 0 1 1 0", "-1/2": "-1 0 0 -1 -1 0", "1/3": "0 1 0 1 0 0", "-1/3": "-1 0 0 -1 0 0",
		"8/3": "2 3 2 3 3 3", "-8/3": "-3 -2 -2 -3 -3 -3", "4": "4 4 4 4 4 4", "-4": "-4 -4 -4 -4 -4 -4", "0": "0 0 0 0 0 0",
	} {
		amounts, times, steps := "", "", ""
		for _, way := range ways {
			amounts += " " + tell(money.Amount(of(text), way))
			times += " " + tell(money.Times(-12, fromBig(new(big.Rat).Quo(toBig(of(text)), big.NewRat(-12, 1))), way))
			six := new(big.Rat).Mul(toBig(of(text)), big.NewRat(6, 1)) // steps of 6: the same parts of a step
			n, e := money.Step(int(six.Num().Int64()), 6, way)
			steps += " " + tell(n/6, e)
		}
		want(t, "Amount of "+text, amounts[1:], wanted)
		want(t, "Times to "+text, times[1:], wanted)
		want(t, "Step of "+text, steps[1:], wanted)
	}
}

// 6.1: what is rounded may just be an amount, or just be none.
func TestAmountAtTheEnds(t *testing.T) {
	end, beyond := strconv.Itoa(most), strconv.Itoa(most+1)
	none := api.ErrMoney.Error()
	over := fromBig(new(big.Rat).Add(big.NewRat(most, 1), big.NewRat(1, 2)))
	under := fromBig(new(big.Rat).Neg(toBig(over)))
	for _, c := range []struct {
		r      api.Ratio
		wanted []string
	}{
		{of(end), []string{end, end, end, end, end, end}},
		{of("-" + end), []string{"-" + end, "-" + end, "-" + end, "-" + end, "-" + end, "-" + end}},
		{of(beyond), []string{none, none, none, none, none, none}},
		{of("-" + beyond), []string{none, none, none, none, none, none}},
		{over, []string{end, none, end, none, none, end}},
		{under, []string{none, "-" + end, "-" + end, none, none, "-" + end}},
		{of(nines(api.MaxDigits)), []string{none, none, none, none, none, none}},
		{of("-" + nines(30)), []string{none, none, none, none, none, none}},
		{of("18446744073709551617"), []string{none, none, none, none, none, none}}, // 1, if only its last 64 bits were looked at
	} {
		for i, way := range ways {
			want(t, fmt.Sprint("Amount of ", c.r, " by ", way), tell(money.Amount(c.r, way)), c.wanted[i])
		}
	}
	for p, wanted := range map[int]string{most: end, -most: "-" + end, most / 2: strconv.Itoa(most / 2)} {
		want(t, "Times 1", tell(money.Times(p, of("1"), api.RoundFloor)), wanted)
	}
	want(t, "Times 2", tell(money.Times(most/2, of("2"), api.RoundFloor)), end)
	want(t, "Times 2, one more", tell(money.Times(most/2+1, of("2"), api.RoundFloor)), none)
	want(t, "Times -2, one more", tell(money.Times(most/2+1, of("-2"), api.RoundCeil)), none)
	want(t, "Times -1", tell(money.Times(most, of("-1"), api.RoundCeil)), "-"+end)
}

// 6.1: what stands on the way may be as long as it likes (R2).
func TestTimesOfLongNumbers(t *testing.T) {
	nearlyFour := of("3" + nines(api.MaxDigits-2) + "7/" + ten(api.MaxDigits-1))
	want(t, "Times", tell(money.Times(most/8, nearlyFour, api.RoundCeil)), strconv.Itoa(most/2))
	want(t, "Times", tell(money.Times(most/8, nearlyFour, api.RoundDown)), strconv.Itoa(most/2-1))
	want(t, "Times", tell(money.Times(-most/8, nearlyFour, api.RoundDown)), strconv.Itoa(1-most/2))
	want(t, "Times", tell(money.Times(most, nearlyFour, api.RoundDown)), api.ErrMoney.Error())
	want(t, "Times", tell(money.Times(most, of(nines(api.MaxDigits)), api.RoundDown)), api.ErrMoney.Error())
	want(t, "Times", tell(money.Times(0, of(nines(api.MaxDigits)), api.RoundUp)), "0")
	want(t, "Times", tell(money.Times(most, of("1/"+nines(api.MaxDigits)), api.RoundUp)), "1")
}

// 6.1: against whole numbers of the library.
func TestRoundsOfAnyNumbers(t *testing.T) {
	r := random(60)
	for i := range 4000 {
		x, p, way := anyRatio(r, 1+i%25), anyAmount(r), ways[i%len(ways)]
		want(t, fmt.Sprint("Amount of ", x, " by ", way), tell(money.Amount(fromBig(x), way)), tellBig(rounded(x, way)))
		product := new(big.Rat).Mul(x, big.NewRat(int64(p), 1))
		want(t, fmt.Sprint("Times ", p, " ", x, " by ", way), tell(money.Times(p, fromBig(x), way)), tellBig(rounded(product, way)))
		step := max(1, anyAmount(r), r.Intn(30))
		n := rounded(big.NewRat(int64(p), int64(step)), way)
		want(t, fmt.Sprint("Step ", p, " ", step, " by ", way), tell(money.Step(p, step, way)), tellBig(n.Mul(n, big.NewInt(int64(step)))))
	}
}

// 6.1: steps of 1, greater than the amount, and such that their multiple is no amount.
func TestSteps(t *testing.T) {
	none := api.ErrMoney.Error()
	for _, c := range []struct {
		p, step int
		wanted  string // floor, ceil, down, up, half up, half even
	}{
		{7, 1, "7 7 7 7 7 7"}, {-most, 1, "-1000000000000000 -1000000000000000 -1000000000000000 -1000000000000000 -1000000000000000 -1000000000000000"},
		{7, 10, "0 10 0 10 10 10"}, {-7, 10, "-10 0 0 -10 -10 -10"}, {5, 10, "0 10 0 10 10 0"}, {-5, 10, "-10 0 0 -10 -10 0"}, {15, 10, "10 20 10 20 20 20"}, {4, 10, "0 10 0 10 0 0"}, {0, 10, "0 0 0 0 0 0"}, {20, 10, "20 20 20 20 20 20"},
		{1, math.MaxInt, "0 " + none + " 0 " + none + " 0 0"}, {-1, math.MaxInt, none + " 0 0 " + none + " 0 0"},
		{most, 2 * most, "0 " + none + " 0 " + none + " " + none + " 0"}, {-most, 2 * most, none + " 0 0 " + none + " " + none + " 0"},
		{most, most, "1000000000000000 1000000000000000 1000000000000000 1000000000000000 1000000000000000 1000000000000000"},
		{most, 7 * most / 10, "700000000000000 " + none + " 700000000000000 " + none + " 700000000000000 700000000000000"},
		{9 * most / 10, 6 * most / 10, "600000000000000 " + none + " 600000000000000 " + none + " " + none + " " + none},
		{most, most + 1, "0 " + none + " 0 " + none + " " + none + " " + none},
	} {
		got := ""
		for _, way := range ways {
			got += " " + tell(money.Step(c.p, c.step, way))
		}
		want(t, fmt.Sprint("Step ", c.p, " ", c.step), got[1:], c.wanted)
	}
}

// 6.8: what is a multiple of the step stays.
func TestStepOfStep(t *testing.T) {
	r := random(61)
	for i := range 3000 {
		p, step, way := anyAmount(r), max(1, anyAmount(r)/(1+r.Intn(1000))), ways[i%len(ways)]
		once, e := money.Step(p, step, way)
		if e != api.OK {
			continue
		}
		for _, other := range ways {
			want(t, fmt.Sprint("Step ", once, " ", step), tell(money.Step(once, step, other)), strconv.Itoa(once))
		}
		if d := once - p; d <= -step || d >= step {
			t.Errorf("Step(%d, %d, %d): %d, a step away", p, step, way, once)
		}
	}
}

// 6.1: sums, their ends, and sums that leave the range on the way.
func TestSum(t *testing.T) {
	none := api.ErrMoney.Error()
	for _, c := range []struct {
		l      []int
		wanted string
	}{
		{nil, "0"}, {[]int{}, "0"}, {[]int{-7}, "-7"}, {[]int{1, -2, 30}, "29"},
		{[]int{most}, "1000000000000000"}, {[]int{-most}, "-1000000000000000"}, {[]int{most, 1}, none}, {[]int{-most, -1}, none},
		{[]int{most, 1, -1}, "1000000000000000"}, {[]int{most, most, -most}, "1000000000000000"}, {[]int{-most, -most, most, 5}, "-999999999999995"}, {[]int{most, -most}, "0"},
		{[]int{most + 1}, none}, {[]int{-most - 1}, none}, {[]int{1, most + 1, -5}, none}, {[]int{math.MaxInt, math.MinInt}, none}, {[]int{math.MinInt}, none},
		{repeated(most, api.MaxItems), none}, {repeated(-most, api.MaxItems), none}, {repeated(3, api.MaxItems), strconv.Itoa(3 * api.MaxItems)},
		{append(repeated(most, api.MaxItems/2), repeated(-most, api.MaxItems/2)...), "0"},
		{repeated(0, api.MaxItems+1), api.ErrLong.Error()}, {repeated(math.MaxInt, api.MaxItems+1), api.ErrLong.Error()},
	} {
		want(t, short(fmt.Sprint("Sum of ", c.l)), tell(money.Sum(c.l)), c.wanted)
	}
}

// 6.1, R1: wrong arguments, and which of two errors comes first.
func TestRoundsOfWrongOnes(t *testing.T) {
	for bad, e := range wrong() {
		for _, way := range append(noWays, ways...) {
			want(t, "Amount of a wrong number", tell(money.Amount(bad, way)), e.Error())
			want(t, "Times of a wrong number", tell(money.Times(0, bad, way)), e.Error())
			for _, p := range noAmounts {
				want(t, "Times of no amount and a wrong number", tell(money.Times(p, bad, way)), api.ErrMoney.Error())
			}
		}
	}
	for _, way := range noWays {
		want(t, "Amount by no way", tell(money.Amount(of("1"), way)), api.ErrRange.Error())
		want(t, "Amount that is none, by no way", tell(money.Amount(of(nines(30)), way)), api.ErrRange.Error())
		want(t, "Times by no way", tell(money.Times(1, of("1"), way)), api.ErrRange.Error())
		want(t, "Times that is none, by no way", tell(money.Times(most, of("2"), way)), api.ErrRange.Error())
		want(t, "Step by no way", tell(money.Step(1, 1, way)), api.ErrRange.Error())
		want(t, "Step by no step and no way", tell(money.Step(1, 0, way)), api.ErrStep.Error())
	}
	for _, way := range append(noWays, ways...) {
		for _, step := range []int{0, -1, -most, math.MinInt} {
			want(t, "Step by no step", tell(money.Step(5, step, way)), api.ErrStep.Error())
			for _, p := range noAmounts {
				want(t, "Step of no amount by no step", tell(money.Step(p, step, way)), api.ErrMoney.Error())
			}
		}
	}
	for _, p := range noAmounts {
		want(t, "Times of no amount", tell(money.Times(p, of("0"), api.RoundDown)), api.ErrMoney.Error())
		want(t, "Step of no amount", tell(money.Step(p, 10, api.RoundDown)), api.ErrMoney.Error())
	}
}
