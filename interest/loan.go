package interest

import (
	"tontine/api"
	"tontine/exact"
	"tontine/money"
	"tontine/ratio"
)

// Loan is how a loan is paid back, year by year (8.6).
func Loan(amount, rate, years, way int) ([]api.Row, api.Errno) {
	switch {
	case !isAmount(amount):
		return nil, api.ErrMoney
	case amount < 1 || !isRate(rate) || rate < 0 || !isYears(years) || years == 0 || !exact.IsWay(way):
		return nil, api.ErrRange
	}
	i, _ := ratio.Of(rate, api.Unit)
	level, owed := levelPayment(amount, rate, years), amount
	rows := make([]api.Row, years)
	for k := range years {
		interest, e := money.Times(owed, i, way)
		if e != api.OK {
			return nil, e
		}
		all := owed + interest
		paid := min(level, all)
		if k == years-1 {
			paid = all
		}
		if !isAmount(paid) {
			return nil, api.ErrMoney
		}
		owed = all - paid // it never grows: the level payment is not below the interest of the first year
		rows[k] = api.Row{Year: k + 1, Interest: interest, Payment: paid, Owed: owed}
	}
	return rows, api.OK
}

func isAmount(p int) bool {
	return p >= -api.MaxMoney && p <= api.MaxMoney
}

// levelPayment is in pennies, and always an int, but perhaps no amount: what is paid may be less, and one.
func levelPayment(amount, rate, years int) int {
	certain := yearly(rate, years, false, one)
	level := exact.OfInt(amount).Times(certain.Inverse()).Round(api.RoundCeil)
	return int(level.Num.Word())
}
