package interest

import (
	"tontine/api"
	"tontine/exact"
)

// checkRates is what is wrong with a list of rates, or OK.
func checkRates(rates []int) api.Errno {
	if len(rates) > api.MaxYears {
		return api.ErrLong
	}
	for _, rate := range rates {
		if !isRate(rate) {
			return api.ErrRange
		}
	}
	return api.OK
}

// factor is v(k), of the spot rates.
func factor(spots []int, k int) exact.Fraction {
	if k == 0 {
		return exact.OfInt(1)
	}
	return growth(spots[k-1]).Power(-k)
}

// eachYear is what is told of the years 1, 2, 3 .., one for each of the rates; or what is wrong with these, or with the first year of which something is too long.
func eachYear(rates []int, tell func(k int) (api.Ratio, api.Errno)) ([]api.Ratio, api.Errno) {
	if e := checkRates(rates); e != api.OK {
		return nil, e
	}
	l := make([]api.Ratio, len(rates))
	for i := range len(rates) {
		r, e := tell(i + 1)
		if e != api.OK {
			return nil, e
		}
		l[i] = r
	}
	return l, api.OK
}

// Factors is what one in each year is worth, of spot rates (8.5).
func Factors(spots []int) ([]api.Ratio, api.Errno) {
	return eachYear(spots, func(k int) (api.Ratio, api.Errno) { return factor(spots, k).Ratio() })
}

// Forwards is the yearly rates that spot rates promise (8.5).
func Forwards(spots []int) ([]api.Ratio, api.Errno) {
	return eachYear(spots, func(k int) (api.Ratio, api.Errno) {
		up := factor(spots, k-1).Times(factor(spots, k).Inverse())
		return up.Plus(exact.OfInt(-1)).Ratio()
	})
}

// Pars is the coupons of bonds at par, of spot rates (8.5).
func Pars(spots []int) ([]api.Ratio, api.Errno) {
	sum := exact.OfInt(0)
	return eachYear(spots, func(k int) (api.Ratio, api.Errno) {
		v := factor(spots, k)
		sum = sum.Plus(v)
		if sum.IsLong() {
			return api.Ratio{}, api.ErrLong
		}
		return onePlus(v.Negated()).Times(sum.Inverse()).Ratio()
	})
}

// Strip is what one in each year is worth, of the coupons of bonds at par (8.5).
func Strip(pars []int) ([]api.Ratio, api.Errno) {
	sum := exact.OfInt(0)
	return eachYear(pars, func(k int) (api.Ratio, api.Errno) {
		coupon := quotient(pars[k-1], api.Unit)
		w := onePlus(coupon.Times(sum).Negated()).Times(onePlus(coupon).Inverse())
		sum = sum.Plus(w)
		if sum.IsLong() {
			return api.Ratio{}, api.ErrLong
		}
		return w.Ratio()
	})
}
