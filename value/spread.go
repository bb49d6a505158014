package value

import (
	"tontine/api"
	"tontine/exact"
	"tontine/whole"
)

// outcomes are the years in which a life may die: the chance to die in each of them, and what a benefit comes to then. Both are whole numbers by one that is the same for all years, so that common divisors are looked for once.
type outcomes struct {
	deaths, comes     []whole.Nat
	deathsBy, comesBy whole.Nat
}

// outcomesOf is those of a life with these rates, at a yearly rate of interest.
func outcomesOf(interest int, rates []int, f api.Benefit) outcomes {
	powers := discounts(interest, max(len(rates), f.Wait+f.Sure)) // no payment is later
	o := outcomes{comes: comes(powers, len(rates), f), comesBy: powers[0]}
	o.deaths, o.deathsBy = deaths(rates)
	return o
}

// deaths is how many die in each year, of as many as it answers besides.
func deaths(rates []int) ([]whole.Nat, whole.Nat) {
	dying := make([]whole.Nat, len(rates))
	alive := natural(1)
	for k, rate := range rates {
		dying[k] = alive.Mul(natural(rate))
		alive = alive.Mul(natural(api.Unit - rate))
	}
	all := natural(1)
	for back := range len(rates) {
		k := len(rates) - 1 - back
		dying[k] = dying[k].Mul(all)
		all = all.Mul(natural(api.Unit))
	}
	return dying, all
}

// discounts is v to the 0, 1, 2 .. and last, all by the first one of them.
func discounts(interest, last int) []whole.Nat {
	powers := make([]whole.Nat, last+1)
	power := natural(1)
	for t := range last + 1 {
		powers[t] = power
		power = power.Mul(natural(api.Unit))
	}
	power = natural(1)
	for back := range last + 1 {
		t := last - back
		powers[t] = powers[t].Mul(power)
		power = power.Mul(natural(api.Unit + interest))
	}
	return powers
}

// comes is what a benefit comes to on a death in each of so many years, by the first one of powers, which has v to each time of a payment.
func comes(powers []whole.Nat, years int, f api.Benefit) []whole.Nat {
	pays, _ := kindOf(f.Kind)
	rest := unsure(f)
	var paid whole.Nat // so far, to one who lives on
	for _, t := range sureTimes(f) {
		paid = paid.Add(powers[t])
	}
	worth := make([]whole.Nat, years)
	for k := range years {
		paid = paid.Add(powers[k].Mul(natural(pays.now(rest, k))))
		worth[k] = paid.Add(powers[k+1].Mul(natural(pays.dead(rest, k))))
		paid = paid.Add(powers[k+1].Mul(natural(pays.then(rest, k))))
	}
	return worth
}

// natural is n, which is not below 0.
func natural(n int) whole.Nat { return whole.Of(uint64(n)) }

// Spread is how far what a benefit comes to spreads: the mean of its squares, less the square of its mean (13.4).
func Spread(b api.Basis, l api.Life, f api.Benefit) (api.Ratio, api.Errno) {
	rates, e := given(b, l, f)
	if e != api.OK {
		return api.Ratio{}, e
	}
	o := outcomesOf(b.Rate, rates, f)
	var mean, squares whole.Nat
	for k := range len(rates) {
		part := o.deaths[k].Mul(o.comes[k])
		mean = mean.Add(part)
		squares = squares.Add(part.Mul(o.comes[k]))
	}
	above := o.deathsBy.Mul(squares).Sub(mean.Mul(mean))
	return exact.WriteLowest(false, above, o.deathsBy.Mul(o.comesBy).Pow(2))
}

// Chance is the chance that a benefit comes to most, or to less (13.4).
func Chance(b api.Basis, l api.Life, f api.Benefit, most api.Ratio) (api.Ratio, api.Errno) {
	rates, e := given(b, l, f)
	if e != api.OK {
		return api.Ratio{}, e
	}
	bound, e := exact.Read(most)
	if e != api.OK {
		return api.Ratio{}, e
	}
	o := outcomesOf(b.Rate, rates, f)
	bound.Num = bound.Num.Mul(o.comesBy)
	greatest, _ := bound.Floor() // a whole number is at most most, if it is at most its whole part
	var chance whole.Nat
	for k := range len(rates) {
		if exact.OfWhole(false, o.comes[k]).Cmp(greatest) <= 0 {
			chance = chance.Add(o.deaths[k])
		}
	}
	return exact.WriteLowest(false, chance, o.deathsBy)
}
