package decrement

import (
	"tontine/api"
	"tontine/exact"
	"tontine/whole"
)

// polynomial is one of the part s of a year: what s to the 0, 1, 2 .. is taken times. The first term is added, the next one taken away, and so on by turns, so that no sign is kept.
type polynomial []whole.Nat

// spared is p times (Unit - s times the rate): that a cause has not taken one up to the part s.
func (p polynomial) spared(rate int) polynomial {
	product := make(polynomial, len(p)+1)
	for k, term := range p {
		product[k] = product[k].Add(term.Mul(natural(api.Unit)))
		product[k+1] = term.Mul(natural(rate))
	}
	return product
}

// taken is p times the rate: how fast a cause takes one at the part s.
func (p polynomial) taken(rate int) polynomial {
	product := make(polynomial, len(p))
	for k, term := range p {
		product[k] = term.Mul(natural(rate))
	}
	return product
}

// common is the least number that all numbers up to MaxCauses divide.
const common = 840

// mean is what p is up to the part s in the mean, times common: the integral from 0 to s, by s.
func (p polynomial) mean() polynomial {
	m := make(polynomial, len(p))
	for k, term := range p {
		m[k] = term.Mul(natural(common / (k + 1)))
	}
	return m
}

// at is p at the part u, times u.Den to the number of terms less one.
//
// What is left of it from one term on is never below nought, if p is a product of factors that are spared or taken, or such a one's mean: by Bonferroni's inequalities sums that break off are by turns above and below the whole one.
func (p polynomial) at(u exact.Fraction) whole.Nat {
	var value whole.Nat
	power := natural(1)
	for i := range len(p) {
		term := p[len(p)-1-i]
		value = term.Mul(power).Sub(value.Mul(u.Num))
		power = power.Mul(u.Den)
	}
	return value
}

// natural is n, which is not below 0.
func natural(n int) whole.Nat { return whole.Of(uint64(n)) }
