package table

import (
	"tontine/api"
	"tontine/exact"
)

// dying is a way of dying within a year: lives is the chance to live a part of it, of one who dies in it with the chance q.
type dying struct {
	how   int
	lives func(part, q exact.Fraction) exact.Fraction
}

func waysOfDying() []dying {
	return []dying{{api.DieEvenly, livesEvenly}, {api.DieLast, livesLast}}
}

// livesBy is what the way says, or nil, if it is none.
func livesBy(how int) func(part, q exact.Fraction) exact.Fraction {
	for _, way := range waysOfDying() {
		if way.how == how {
			return way.lives
		}
	}
	return nil
}

// oneLess is 1 - f.
func oneLess(f exact.Fraction) exact.Fraction {
	return f.Negated().Plus(exact.OfInt(1))
}

func livesEvenly(part, q exact.Fraction) exact.Fraction {
	return oneLess(part.Times(q))
}

func livesLast(part, q exact.Fraction) exact.Fraction {
	if part.Sign() == 0 { // of a q of 1 the quotient would be 0 by 0
		return exact.OfInt(1)
	}
	left := oneLess(part)
	return oneLess(q).Times(oneLess(left.Times(q)).Inverse())
}

// Within is the chance to live n years more and a part of the next one (9.3).
func Within(t api.Table, l api.Life, n int, part api.Ratio, how int) (api.Ratio, api.Errno) {
	rates, e := comingFor(t, l, n)
	if e != api.OK {
		return api.Ratio{}, e
	}
	u, e := exact.Read(part)
	if e != api.OK {
		return api.Ratio{}, e
	}
	lives := livesBy(how)
	if u.Neg || u.Cmp(exact.OfInt(1)) > 0 || lives == nil {
		return api.Ratio{}, api.ErrRange
	}
	if n >= len(rates) {
		return exact.OfInt(0).Ratio()
	}
	return survival(rates, n).Times(lives(u, chance(rates[n]))).Ratio()
}
