package table

import (
	"tontine/api"
	"tontine/exact"
	"tontine/whole"
)

// coming is the rates of a life in 0, 1, 2 .. years, as many as there are, of which the last one alone is Unit; or what is wrong with the table, or with the life.
func coming(t api.Table, l api.Life) ([]int, api.Errno) {
	if e := Check(t); e != api.OK {
		return nil, e
	}
	end := last(t)
	if l.Years < 0 || l.Entry < t.First || l.Entry > end || l.Years > end-l.Entry {
		return nil, api.ErrAge
	}
	rates := make([]int, end-l.Entry-l.Years+1)
	for n := range len(rates) {
		since := l.Years + n
		if since < len(t.Select) {
			rates[n] = t.Select[since][l.Entry-t.First]
		} else {
			rates[n] = t.Rates[l.Entry+since-t.First]
		}
	}
	return rates, api.OK
}

// comingFor is likewise, for a call that is asked of what is in n years.
func comingFor(t api.Table, l api.Life, n int) ([]int, api.Errno) {
	rates, e := coming(t, l)
	switch {
	case e != api.OK:
		return nil, e
	case !isYears(n):
		return nil, api.ErrRange
	}
	return rates, api.OK
}

func isYears(n int) bool { return n >= 0 && n <= api.MaxYears }

func unit() whole.Nat { return whole.Of(api.Unit) }

// survivors is how many of Unit to the n live n years more, for each n from 0 up to as many as there are rates. So all is reckoned in whole numbers, and common divisors are looked for once.
func survivors(rates []int) []whole.Nat {
	alive := make([]whole.Nat, len(rates)+1)
	alive[0] = whole.Of(1)
	for n := range len(rates) {
		alive[n+1] = alive[n].Mul(whole.Of(uint64(api.Unit - rates[n])))
	}
	return alive
}

// survival is S(n), of a life's rates.
func survival(rates []int, n int) exact.Fraction {
	n = min(n, len(rates)) // nobody is alive behind the last rate
	return exact.Lowest(false, survivors(rates[:n])[n], unit().Pow(n))
}

// chance is a rate by Unit.
func chance(rate int) exact.Fraction {
	return exact.Lowest(false, whole.Of(uint64(rate)), unit())
}

// Rate is a life's rate in n years (9.2).
func Rate(t api.Table, l api.Life, n int) (int, api.Errno) {
	rates, e := comingFor(t, l, n)
	switch {
	case e != api.OK:
		return 0, e
	case n >= len(rates):
		return 0, api.ErrNone
	}
	return rates[n], api.OK
}

// Survive is the chance to live n years more (9.2).
func Survive(t api.Table, l api.Life, n int) (api.Ratio, api.Errno) {
	rates, e := comingFor(t, l, n)
	if e != api.OK {
		return api.Ratio{}, e
	}
	return survival(rates, n).Ratio()
}

// Die is the chance to live n years more, but not one more than that (9.2).
func Die(t api.Table, l api.Life, n int) (api.Ratio, api.Errno) {
	rates, e := comingFor(t, l, n)
	if e != api.OK {
		return api.Ratio{}, e
	}
	return survival(rates, n).Plus(survival(rates, n+1).Negated()).Ratio()
}

// Expect is how many whole years a life lives, of so many years from a time on (9.4).
func Expect(t api.Table, l api.Life, from, years int) (api.Ratio, api.Errno) {
	rates, e := coming(t, l)
	switch {
	case e != api.OK:
		return api.Ratio{}, e
	case !isYears(from) || !isYears(years):
		return api.Ratio{}, api.ErrRange
	}
	end := min(from+years, len(rates))
	var sum whole.Nat // of Unit to the k
	for k, alive := range survivors(rates[:end]) {
		sum = sum.Mul(unit())
		if k > from {
			sum = sum.Add(alive)
		}
	}
	return exact.Lowest(false, sum, unit().Pow(end)).Ratio()
}

// Probable is in how many years a life is not likelier alive than dead (9.4).
func Probable(t api.Table, l api.Life) (int, api.Errno) {
	rates, e := coming(t, l)
	if e != api.OK {
		return 0, e
	}
	n, alive, all := 0, survivors(rates), whole.Of(1)
	for alive[n].ShiftLeft(1).Cmp(all) > 0 { // it ends, since nobody is alive behind the last rate
		n++
		all = all.Mul(unit())
	}
	return n, api.OK
}
