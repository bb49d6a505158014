package joint

import (
	"tontine/api"
	"tontine/exact"
	"tontine/whole"
)

// Assure is the value of 1 at the end of the year in which of a party so many have died, if that is within so many years (14.4).
func Assure(b api.Basis, party []api.Life, death, years int) (api.Ratio, api.Errno) {
	rates, e := ratesOf(b, party)
	switch {
	case e != api.OK:
		return api.Ratio{}, e
	case death < 1 || death > len(party) || !isYears(years):
		return api.Ratio{}, api.ErrRange
	}
	many := len(party) - death + 1 // as long as so many live at least, fewer have died
	still := make([]whole.Nat, years+1)
	for t, g := range groups(rates, years) {
		still[t] = g.least(many)
	}
	aYear := natural(api.Unit).Pow(len(party))
	return worth(b.Rate, len(party), 1, years, func(t int) exact.Fraction {
		return exact.OfWhole(false, still[t-1].Mul(aYear).Sub(still[t]))
	})
}

// First is the value of 1 at the end of the year in which one of a party dies ahead of all others, if that is within so many years (14.4).
func First(b api.Basis, party []api.Life, who, years int) (api.Ratio, api.Errno) {
	rates, e := ratesOf(b, party)
	switch {
	case e != api.OK:
		return api.Ratio{}, e
	case who < 0 || who >= len(party) || !isYears(years):
		return api.Ratio{}, api.ErrRange
	}
	for _, l := range rates {
		years = min(years, len(l)) // behind that not all live
	}
	times := groups(rates, years)
	return worth(b.Rate, len(party), 1, years, func(t int) exact.Fraction {
		all := natural(1)
		for _, alive := range times[t-1].alive {
			all = all.Mul(alive)
		}
		return ahead(rates, who, t-1).Times(exact.OfWhole(false, all))
	})
}

// ahead is the chance that, of lives of which all live at the beginning of the year n, the one at the place who dies in it ahead of all others: by Unit to the number of lives. All have a rate for that year.
func ahead(rates [][]int, who, n int) exact.Fraction {
	var die, stay []whole.Nat // of the others
	for i, l := range rates {
		if i != who {
			die, stay = append(die, natural(l[n])), append(stay, natural(api.Unit-l[n]))
		}
	}
	chance := exact.OfInt(0)
	for others, c := range byNumber(die, stay) {
		chance = chance.Plus(exact.OfWhole(false, c).Times(exact.OfInt(others + 1).Inverse()))
	}
	return chance.Times(exact.OfInt(rates[who][n]))
}

// Behind is the value of 1 a year to the one, as long as it lives and the other one does not (14.4).
func Behind(b api.Basis, to, of api.Life, years int) (api.Ratio, api.Errno) {
	rates, e := ratesOf(b, []api.Life{to, of})
	switch {
	case e != api.OK:
		return api.Ratio{}, e
	case !isYears(years):
		return api.Ratio{}, api.ErrRange
	}
	times := groups(rates, years)
	return worth(b.Rate, len(rates), 1, years, func(t int) exact.Fraction {
		return exact.OfWhole(false, times[t].alive[0].Mul(times[t].dead()[1]))
	})
}
