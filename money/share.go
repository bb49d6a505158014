package money

import (
	"slices"

	"tontine/api"
	"tontine/exact"
	"tontine/whole"
)

// Share is an amount, shared out by weights (6.2).
func Share(total int, weights []api.Ratio) ([]int, api.Errno) {
	if !isAmount(total) {
		return nil, api.ErrMoney
	}
	l, e := exact.ReadAll(weights, api.MaxItems)
	if e != api.OK {
		return nil, e
	}
	sum, e := sumOfWeights(l)
	if e != api.OK {
		return nil, e
	}
	return shareOut(total, quotasOf(total, l, sum)), api.OK
}

// Parts is an amount, cut into equal parts (6.2).
func Parts(total, parts int) ([]int, api.Errno) {
	switch {
	case !isAmount(total):
		return nil, api.ErrMoney
	case parts < 1 || parts > api.MaxItems:
		return nil, api.ErrRange
	}
	return Share(total, slices.Repeat([]api.Ratio{{Num: "1", Den: "1"}}, parts))
}

// sumOfWeights is the sum of weights; or ErrWeights, if they are none; or ErrLong, if their sum up to some place is too long.
func sumOfWeights(l []exact.Fraction) (exact.Fraction, api.Errno) {
	if !areWeights(l) {
		return exact.Fraction{}, api.ErrWeights
	}
	sum := exact.OfInt(0)
	for _, w := range l {
		sum = sum.Plus(w)
		if sum.IsLong() {
			return exact.Fraction{}, api.ErrLong
		}
	}
	return sum, api.OK
}

func areWeights(l []exact.Fraction) bool {
	some := false
	for _, w := range l {
		if w.Sign() < 0 {
			return false
		}
		some = some || w.Sign() > 0
	}
	return some
}

// quota is the quota of a weight, of the amount's size: its whole pennies, and its rest in parts of a penny that are so small that rests which are not equal are not so many of them either.
type quota struct {
	pennies int
	rest    whole.Nat
}

func quotasOf(total int, weights []exact.Fraction, sum exact.Fraction) []quota {
	places := restPlaces(weights, sum)
	times := exact.OfInt(total).Num.Mul(sum.Den).ShiftLeft(places)
	quotas := make([]quota, len(weights))
	for i := range len(weights) {
		parts, _ := times.Mul(weights[i].Num).DivMod(sum.Num.Mul(weights[i].Den))
		n := parts.ShiftRight(places)
		quotas[i] = quota{int(n.Word()), parts.Sub(n.ShiftLeft(places))}
	}
	return quotas
}

// restPlaces is how many binary places of the quotas tell their rests apart: two rests differ by a multiple of 1 by both weights' denominators and the sum's numerator, if they differ.
func restPlaces(weights []exact.Fraction, sum exact.Fraction) int {
	longest := 0
	for _, w := range weights {
		longest = max(longest, w.Den.BitLen())
	}
	return 2*longest + sum.Num.BitLen()
}

// shareOut gives each its whole pennies, and one more to those with the greatest rests, as long as some are left.
func shareOut(total int, quotas []quota) []int {
	shares := make([]int, len(quotas))
	left, sign := total, 1
	if total < 0 {
		left, sign = -total, -1
	}
	give := func(i, pennies int) {
		shares[i] += sign * pennies
		left -= pennies
	}
	for i := range len(quotas) {
		give(i, quotas[i].pennies)
	}
	for _, i := range byRests(quotas)[:left] {
		give(i, 1)
	}
	return shares
}

// byRests is the places of the quotas, those with the greater rests first, of equal ones the earlier.
func byRests(quotas []quota) []int {
	places := make([]int, len(quotas))
	for i := range len(quotas) {
		places[i] = i
	}
	slices.SortStableFunc(places, func(i, j int) int { return quotas[j].rest.Cmp(quotas[i].rest) })
	return places
}
