package decrement

import (
	"tontine/api"
	"tontine/exact"
	"tontine/whole"
)

// Worth is what is to be paid is worth at the times 0, 1, 2 .., to one who is there then (15.6).
func Worth(c api.Causes, rate, age int, l []api.Leave) ([]api.Ratio, api.Errno) {
	if e := checkAge(c, age); e != api.OK {
		return nil, e
	}
	n := len(l)
	switch {
	case rate < 0 || rate > api.MaxRate:
		return nil, api.ErrRange
	case n == 0 || n > api.MaxYears || !areLeaves(l, len(c.Rates)):
		return nil, api.ErrLeaves
	case age+n-1 > last(c):
		return nil, api.ErrAge
	}
	years := outcomes(c, age, n)
	v := exact.Lowest(false, natural(api.Unit), natural(api.Unit+rate))
	worth, answers := exact.OfInt(0), make([]api.Ratio, n+1)
	for i := range n + 1 {
		t := n - i
		if t < n {
			worth = years[t].worth(l[t], worth).Times(v)
		}
		r, e := worth.Ratio()
		if e != api.OK { // so no number grows far beyond an answer
			return nil, e
		}
		answers[t] = r
	}
	return answers, api.OK
}

// areLeaves tells whether all members of l are payments for so many causes.
func areLeaves(l []api.Leave, causes int) bool {
	for _, p := range l {
		if len(p.Gone) != causes || !isPaid(p.Live) {
			return false
		}
		for _, amount := range p.Gone {
			if !isPaid(amount) {
				return false
			}
		}
	}
	return true
}

func isPaid(amount int) bool { return amount >= 0 && amount <= api.MaxMoney }

// worth is what the year is worth at its end, if then one who stays is worth so much besides what is paid.
func (o outcome) worth(l api.Leave, later exact.Fraction) exact.Fraction {
	var paid whole.Nat
	for cause, amount := range l.Gone {
		paid = paid.Add(o.gone[cause].Mul(natural(amount)))
	}
	left := exact.Lowest(false, paid, o.all.Mul(natural(common)))
	stay := exact.Lowest(false, o.stay, o.all)
	return stay.Times(exact.OfInt(l.Live).Plus(later)).Plus(left)
}
