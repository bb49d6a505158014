package interest

import (
	"tontine/api"
	"tontine/exact"
	"tontine/whole"
)

// payment is a whole amount, of any size, at a time.
type payment struct {
	time   int
	amount exact.Fraction
}

// read is the payments of flows, or what is wrong with the first one that is not right.
func read(l []api.Flow) ([]payment, api.Errno) {
	if len(l) > api.MaxItems {
		return nil, api.ErrLong
	}
	payments := make([]payment, len(l))
	last := -1
	for i, f := range l {
		switch {
		case f.Time <= last || f.Time > api.MaxYears:
			return nil, api.ErrFlows
		case !isAmount(f.Amount):
			return nil, api.ErrMoney
		}
		payments[i] = payment{f.Time, exact.OfInt(f.Amount)}
		last = f.Time
	}
	return payments, api.OK
}

// worth is what payments are worth at the last one's time, by what one is worth a year later. It is not in lowest terms: common divisors are looked for once, if at all, and not payment by payment.
func worth(l []payment, growth exact.Fraction) exact.Fraction {
	sum := exact.Fraction{Den: whole.Of(1)}
	for i, p := range l {
		if i > 0 {
			gap := p.time - l[i-1].time
			sum.Num = sum.Num.Mul(growth.Num.Pow(gap))
			sum.Den = sum.Den.Mul(growth.Den.Pow(gap))
		}
		sum.Neg, sum.Num = exact.PlusSigned(sum.Neg, sum.Num, p.amount.Neg, p.amount.Num.Mul(sum.Den))
	}
	return sum
}

// value is what payments are worth at a time, in lowest terms.
func value(l []payment, growth exact.Fraction, time int) exact.Fraction {
	if len(l) == 0 {
		return exact.OfInt(0)
	}
	f := worth(l, growth)
	return exact.Lowest(f.Neg, f.Num, f.Den).Times(growth.Power(time - l[len(l)-1].time))
}

// timed is the payments, each amount times its time.
func timed(l []payment) []payment {
	products := make([]payment, len(l))
	for i, p := range l {
		products[i] = payment{p.time, p.amount.Times(exact.OfInt(p.time))}
	}
	return products
}

// Present is what flows are worth at a time (8.3).
func Present(l []api.Flow, rate, time int) (api.Ratio, api.Errno) {
	payments, e := read(l)
	switch {
	case e != api.OK:
		return api.Ratio{}, e
	case !isRate(rate) || !isYears(time):
		return api.Ratio{}, api.ErrRange
	}
	return value(payments, growth(rate), time).Ratio()
}

// Duration is the mean time of flows, and the mean square of their times (8.3).
func Duration(l []api.Flow, rate int) (api.Ratio, api.Ratio, api.Errno) {
	payments, e := read(l)
	switch {
	case e != api.OK:
		return api.Ratio{}, api.Ratio{}, e
	case !isRate(rate):
		return api.Ratio{}, api.Ratio{}, api.ErrRange
	}
	up := growth(rate)
	all := value(payments, up, 0)
	if all.Sign() == 0 {
		return api.Ratio{}, api.Ratio{}, api.ErrZero
	}
	once := timed(payments)
	mean := func(l []payment) exact.Fraction { return value(l, up, 0).Times(all.Inverse()) }
	return writeTwo(mean(once), mean(timed(once)))
}

// Immune is what must come before and behind a payment of 1, so that no rate can hurt (8.3).
func Immune(rate, before, behind int) (api.Ratio, api.Ratio, api.Errno) {
	if !isRate(rate) || !isYears(before) || before == 0 || !isYears(behind) || behind == 0 {
		return api.Ratio{}, api.Ratio{}, api.ErrRange
	}
	up, both := growth(rate), before+behind
	return writeTwo(up.Power(-before).Times(quotient(behind, both)), up.Power(behind).Times(quotient(before, both)))
}
