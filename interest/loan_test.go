package interest_test

import (
	"fmt"
	"math/big"
	"testing"

	"tontine/api"
	"tontine/interest"
)

// rounded is the whole number that x, which is not below nought, becomes by the way.
func rounded(x *big.Rat, way int) *big.Int {
	low := new(big.Int).Div(x.Num(), x.Denom())
	high := new(big.Int).Add(low, big.NewInt(1))
	if x.IsInt() {
		return low
	}
	middle := plus(new(big.Rat).SetInt(low), big.NewRat(1, 2))
	switch way {
	case api.RoundFloor, api.RoundDown:
		return low
	case api.RoundCeil, api.RoundUp:
		return high
	}
	if side := x.Cmp(middle); side < 0 || side == 0 && way == api.RoundHalfEven && low.Bit(0) == 0 {
		return low
	}
	return high
}

// level is the payment that would pay an amount back in so many years, rounded to the upper penny.
func level(amount, rate, years int) *big.Int {
	certain := new(big.Rat)
	for k := range years {
		certain.Add(certain, power(up(rate), -k-1))
	}
	return rounded(by(whole(amount), certain), api.RoundCeil)
}

// loan is what a loan's rows are by their words, in numbers of any size; or the error.
func loan(amount, rate, years, way int) string {
	var rows []api.Row
	owed, each := big.NewInt(int64(amount)), level(amount, rate, years)
	for k := range years {
		interest := rounded(times(new(big.Rat).SetInt(owed), rateOf(rate)), way)
		all := new(big.Int).Add(owed, interest)
		payment := each
		if k == years-1 || all.Cmp(each) < 0 {
			payment = all
		}
		owed = new(big.Int).Sub(all, payment)
		for _, n := range []*big.Int{interest, payment, owed} {
			if n.CmpAbs(big.NewInt(most)) > 0 {
				return api.ErrMoney.Error()
			}
		}
		rows = append(rows, api.Row{Year: k + 1, Interest: int(interest.Int64()), Payment: int(payment.Int64()), Owed: int(owed.Int64())})
	}
	return fmt.Sprint(rows)
}

// 8.6: rows by their words: a penny, the greatest amount and others, at all rates from 0 on, for one year up to MaxYears, by each way.
func TestLoan(t *testing.T) {
	for _, amount := range []int{1, 2, 3, 99, 10000, 123456789, most / 11, most/11 + 1, most / 10, most/10 - 1, most - 1, most} {
		for _, rate := range []int{0, 1, 333333, 500000, 3333333, unit, api.MaxRate} {
			for _, years := range []int{1, 2, 3, 30, longest} {
				for _, way := range ways {
					what := fmt.Sprint("Loan ", amount, " ", rate, " ", years, " ", way)
					want(t, what, tellRows(interest.Loan(amount, rate, years, way)), loan(amount, rate, years, way))
				}
			}
		}
	}
}

// 8.6: what is no amount, and what only would have been one: a level payment above MaxMoney that is never paid, and all that is left in the last year.
func TestLoanAtMaxMoney(t *testing.T) {
	const amount = 999999900000010 // with a ten-millionth MaxMoney and a millionth of a penny
	for _, way := range ways {
		wanted := "[{1 99999990 1000000000000000 0}]"
		if way == api.RoundCeil || way == api.RoundUp {
			wanted = api.ErrMoney.Error()
		}
		want(t, fmt.Sprint("Loan by ", way), tellRows(interest.Loan(amount, 1, 1, way)), wanted)
	}
	// Rounded up, the interest is the level payment: nothing is paid back ahead of the last year.
	const stays, rate = 600000000000001, 9000000
	want(t, "Loan that stays", tellRows(interest.Loan(stays, rate, longest, api.RoundCeil)), api.ErrMoney.Error())
	rows, e := interest.Loan(300000000000001, rate, longest, api.RoundCeil)
	if e != api.OK || rows[longest-1].Interest == 0 {
		t.Error("Loan of half of it:", e)
	}
	if _, e := interest.Loan(stays, rate, longest, api.RoundFloor); e != api.OK {
		t.Error("Loan that is paid back:", e)
	}
	want(t, "interest above MaxMoney", tellRows(interest.Loan(most, api.MaxRate, longest, api.RoundFloor)), api.ErrMoney.Error())
	want(t, "the level payment above MaxMoney", tellRows(interest.Loan(most/10, api.MaxRate, longest, api.RoundFloor)), api.ErrMoney.Error())
}

// 8.11: a loan is paid back; what is paid in all is the amount and all interest; and how far rounding leads away.
func TestLoanIsPaidBack(t *testing.T) {
	r := random(811)
	for range 200 {
		amount, rate, years, way := 1+r.Intn(1000000), r.Intn(2*unit), 1+r.Intn(longest), ways[r.Intn(6)]
		if r.Intn(2) == 0 {
			rate = r.Intn(1000000)
		}
		what := fmt.Sprint("Loan ", amount, " ", rate, " ", years, " ", way)
		rows, e := interest.Loan(amount, rate, years, way)
		if e != api.OK || len(rows) != years {
			t.Fatal(what, e)
		}
		left := amount
		for k, row := range rows {
			left += row.Interest - row.Payment
			if row.Year != k+1 || row.Owed != left || row.Owed < 0 {
				t.Errorf("%s: %v", what, row)
			}
		}
		if left != 0 {
			t.Errorf("%s: %d is owed at the end", what, left)
		}
		checkAway(t, what, rows, amount, rate)
	}
}

// checkAway holds what is owed against what would be owed without rounding, as long as each payment is the level one.
func checkAway(t *testing.T, what string, rows []api.Row, amount, rate int) {
	t.Helper()
	each := level(amount, rate, len(rows))
	owed, bound := whole(amount), new(big.Rat)
	for _, row := range rows {
		if big.NewInt(int64(row.Payment)).Cmp(each) != 0 {
			return
		}
		owed = plus(times(owed, up(rate)), whole(-row.Payment))
		bound = plus(times(bound, up(rate)), whole(1))
		away := plus(whole(row.Owed), minus(owed))
		if away.Abs(away).Cmp(bound) >= 0 {
			t.Errorf("%s: in the year %d %d is owed", what, row.Year, row.Owed)
		}
	}
}

// 8.6: what is out of its range; no amount is told ahead of all else.
func TestLoanOutOfRange(t *testing.T) {
	refused := api.ErrRange.Error()
	for _, amount := range noAmounts {
		want(t, "Loan", tellRows(interest.Loan(amount, 0, 1, api.RoundFloor)), api.ErrMoney.Error())
		want(t, "Loan", tellRows(interest.Loan(amount, -1, 0, 0)), api.ErrMoney.Error())
	}
	for _, amount := range []int{0, -1, -most} {
		want(t, "Loan", tellRows(interest.Loan(amount, 0, 1, api.RoundFloor)), refused)
	}
	for _, rate := range append(noRates, -1, -unit+1) {
		want(t, "Loan", tellRows(interest.Loan(1, rate, 1, api.RoundFloor)), refused)
	}
	for _, years := range append(noYears, 0) {
		want(t, "Loan", tellRows(interest.Loan(1, 0, years, api.RoundFloor)), refused)
	}
	for _, way := range noWays {
		want(t, "Loan", tellRows(interest.Loan(1, 0, 1, way)), refused)
		want(t, "Loan that would be too great", tellRows(interest.Loan(most, api.MaxRate, 1, way)), refused)
	}
}
