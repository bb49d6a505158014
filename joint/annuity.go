package joint

import (
	"tontine/api"
	"tontine/exact"
	"tontine/whole"
)

// Annuity is the value of a yearly payment that hangs on how many of a party live (14.3).
func Annuity(b api.Basis, party []api.Life, pays []int, years int, due bool) (api.Ratio, api.Errno) {
	rates, e := paying(b, party, pays, years)
	if e != api.OK {
		return api.Ratio{}, e
	}
	return yearly(b.Rate, rates, years, due, func(g group) exact.Fraction { return weighed(pays, g.numbers()) })
}

// Nesbitt is the same number, by the differences of the payments and the sums of Schuette and Nesbitt (14.3).
func Nesbitt(b api.Basis, party []api.Life, pays []int, years int, due bool) (api.Ratio, api.Errno) {
	rates, e := paying(b, party, pays, years)
	if e != api.OK {
		return api.Ratio{}, e
	}
	fronts := frontDifferences(pays)
	return yearly(b.Rate, rates, years, due, func(g group) exact.Fraction { return weighed(fronts, g.sums()) })
}

// paying is each life's rates in 0, 1, 2 .. years; or what is wrong with what an annuity is given.
func paying(b api.Basis, party []api.Life, pays []int, years int) ([][]int, api.Errno) {
	rates, e := ratesOf(b, party)
	if e != api.OK {
		return nil, e
	}
	if len(pays) != len(party)+1 {
		return nil, api.ErrPays
	}
	for _, amount := range pays {
		if amount < -api.MaxMoney || amount > api.MaxMoney {
			return nil, api.ErrMoney
		}
	}
	if !isYears(years) {
		return nil, api.ErrRange
	}
	return rates, api.OK
}

// frontDifferences is the first one of the differences of each order, from 0 on. None is above 2^MaxParty times MaxMoney, which an int can hold.
func frontDifferences(pays []int) []int {
	var fronts []int
	for len(pays) > 0 {
		fronts = append(fronts, pays[0])
		next := make([]int, len(pays)-1)
		for i := range len(next) {
			next[i] = pays[i+1] - pays[i]
		}
		pays = next
	}
	return fronts
}

// weighed is the sum of the numbers, each times its weight.
func weighed(weights []int, numbers []whole.Nat) exact.Fraction {
	sum := exact.OfInt(0)
	for k, n := range numbers {
		sum = sum.Plus(exact.OfInt(weights[k]).Times(exact.OfWhole(false, n)))
	}
	return sum
}

// yearly is the value of what is paid year by year to a group as it is then, so many times: from now on, if due, else from the end of the year on.
func yearly(interest int, rates [][]int, years int, due bool, paid func(g group) exact.Fraction) (api.Ratio, api.Errno) {
	first, last := 1, years
	if due {
		first, last = 0, years-1
	}
	times := groups(rates, years)
	return worth(interest, len(rates), first, last, func(t int) exact.Fraction { return paid(times[t]) })
}
