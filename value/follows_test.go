package value_test

import (
	"fmt"
	"math/big"
	"testing"

	"tontine/api"
	"tontine/table"
	"tontine/value"
)

// valueOf is a value.
func valueOf(t *testing.T, b api.Basis, l api.Life, f api.Benefit) *big.Rat {
	t.Helper()
	r, e := value.Exact(b, l, f)
	return number(t, r, e)
}

// surviving is v to the n S(n).
func surviving(t *testing.T, b api.Basis, l api.Life, n int) *big.Rat {
	t.Helper()
	r, e := table.Survive(b.Table, l, n)
	return times(number(t, r, e), power(b, n))
}

// eachTerm goes over lives, and over terms: 1, 2, about the last year, MaxYears.
func eachTerm(do func(what string, b api.Basis, l api.Life, n int)) {
	look := func(what string, b api.Basis, l api.Life) {
		m := len(ratesOf(b.Table, l))
		for _, n := range []int{1, 2, m / 2, m - 1, m, m + 1, longest} {
			if n >= 1 && n <= longest {
				do(fmt.Sprint(n, " years of ", what), b, l, n)
			}
		}
	}
	eachLife(look)
	eachOf(longTables()[1], []int{410000}, []api.Life{{}, {Entry: 33, Years: 2}}, look)
}

// 13.7: BBoth is 1 - d BDue; BLate is BDue, less 1, and what 1 is worth at the end, if alive, more.
func TestAnnuitiesAndAssurances(t *testing.T) {
	eachTerm(func(what string, b api.Basis, l api.Life, n int) {
		yearly := valueOf(t, b, l, api.Benefit{Kind: api.BDue, Term: n})
		d := rat(int64(b.Rate), int64(unit+b.Rate))
		want(t, "BBoth over "+what, valueOf(t, b, l, api.Benefit{Kind: api.BBoth, Term: n}).String(), minus(rat(1, 1), times(d, yearly)).String())
		late := plus(minus(yearly, rat(1, 1)), surviving(t, b, l, n))
		want(t, "BLate over "+what, valueOf(t, b, l, api.Benefit{Kind: api.BLate, Term: n}).String(), late.String())
	})
}

// 13.8: BRising and BFalling come to n + 1 times BAssure.
func TestRisingAndFalling(t *testing.T) {
	eachTerm(func(what string, b api.Basis, l api.Life, n int) {
		for _, wait := range []int{0, 1, 3} {
			both := plus(valueOf(t, b, l, api.Benefit{Kind: api.BRising, Wait: wait, Term: n}), valueOf(t, b, l, api.Benefit{Kind: api.BFalling, Wait: wait, Term: n}))
			once := valueOf(t, b, l, api.Benefit{Kind: api.BAssure, Wait: wait, Term: n})
			want(t, fmt.Sprint("both over ", what, " in ", wait), both.String(), times(rat(int64(n+1), 1), once).String())
		}
	})
}

// 13.8: what is promised over m + n years is what is promised over m, and over n with m more to wait.
func TestYearsInARow(t *testing.T) {
	r := random(138)
	eachTerm(func(what string, b api.Basis, l api.Life, m int) {
		for _, kind := range []int{api.BAssure, api.BDue, api.BLate} {
			n, wait := 1+r.Intn(12), r.Intn(5)
			if m+n > longest || wait+m > longest {
				continue
			}
			parts := plus(valueOf(t, b, l, api.Benefit{Kind: kind, Wait: wait, Term: m}), valueOf(t, b, l, api.Benefit{Kind: kind, Wait: wait + m, Term: n}))
			want(t, fmt.Sprint("kind ", kind, " over ", n, " and ", what), valueOf(t, b, l, api.Benefit{Kind: kind, Wait: wait, Term: m + n}).String(), parts.String())
		}
	})
}

// 13.8: with all of them sure an annuity hangs on no table: it is the sum of v to the times, and spreads nothing.
func TestAllSure(t *testing.T) {
	for _, kind := range sureKinds {
		for _, wait := range []int{0, 1, 7, longest} {
			for _, n := range []int{1, 2, 40, longest} {
				f, sum := api.Benefit{Kind: kind, Wait: wait, Term: n, Sure: n}, rat(0, 1)
				rate := interests[(wait+n)%len(interests)]
				first := wait
				if kind == api.BLate {
					first++
				}
				for k := range n {
					sum = plus(sum, power(api.Basis{Rate: rate}, first+k))
				}
				for _, a := range append(tables(), longTables()[0]) {
					b, l := api.Basis{Table: a, Rate: rate}, api.Life{Entry: a.First + len(a.Rates)/2}
					want(t, fmt.Sprint("Exact of ", f), tellRatio(value.Exact(b, l, f)), sum.String())
					want(t, fmt.Sprint("Spread of ", f), tellRatio(value.Spread(b, l, f)), "0/1")
				}
			}
		}
	}
}

// 13.9: of a benefit with nothing sure Later goes on from year to year, and begins with the value; what is sure makes the value greater, or leaves it.
func TestLaterGoesOn(t *testing.T) {
	check := func(what string, b api.Basis, l api.Life, f api.Benefit) {
		got, e := value.Later(b, l, f)
		if e != api.OK {
			t.Fatal(what, e)
		}
		want(t, "Later(0) of "+what, tellRatio(got[0], e), valueOf(t, b, l, f).String())
		if f.Sure > 0 {
			f.Sure = 0
			if valueOf(t, b, l, f).Cmp(number(t, got[0], e)) > 0 {
				t.Error(what, "is worth less than with nothing sure")
			}
			return
		}
		v, next := power(b, 1), rat(0, 1)
		rates := ratesOf(b.Table, l)
		for k := len(rates) - 1; k >= 0; k-- {
			now, then, dead := paid(f, k)
			q := rat(int64(rates[k]), unit)
			lives := times(minus(rat(1, 1), q), plus(rat(int64(then), 1), next))
			next = plus(rat(int64(now), 1), times(v, plus(times(q, rat(int64(dead), 1)), lives)))
			want(t, fmt.Sprint("Later(", k, ") of ", what), tellRatio(got[k], e), next.String())
		}
	}
	eachBenefit(1, check)
	eachLongBenefit(1, check)
}

// 13.11: a spread is not below nought; it is nought, if the life dies in a year that is sure: in its table's last one, or since all others have a rate of 0.
func TestSpreadsAreNotBelowNought(t *testing.T) {
	eachBenefit(1, func(what string, b api.Basis, l api.Life, f api.Benefit) {
		r, e := value.Spread(b, l, f)
		if number(t, r, e).Sign() < 0 {
			t.Error(what, "spreads below nought")
		}
		end := api.Life{Entry: b.Table.First + len(b.Table.Rates) - 1}
		want(t, "Spread of the last year of "+what, tellRatio(value.Spread(b, end, f)), "0/1")
	})
	sure := api.Basis{Table: tableOf(0, oldest+1, 2, always(0)), Rate: 250000}
	for _, kind := range kinds {
		for _, f := range someOf(random(1311), benefitsFor(kind, oldest+1), 6) {
			want(t, fmt.Sprint("Spread of ", f), tellRatio(value.Spread(sure, api.Life{Entry: 5}, f)), "0/1")
		}
	}
}

// 13.11: Chance rises with most, and comes to 1; below nought it is 0.
func TestChancesRise(t *testing.T) {
	eachBenefit(1, func(what string, b api.Basis, l api.Life, f api.Benefit) {
		chance := func(p, q int64) *big.Rat {
			r, e := value.Chance(b, l, f, ratioOf(rat(p, q)))
			return number(t, r, e)
		}
		ahead := rat(0, 1)
		for p := int64(-2); p < 40; p += 6 {
			x := chance(p, 8)
			if x.Cmp(ahead) < 0 {
				t.Errorf("Chance of %s falls at %d by 8", what, p)
			}
			ahead = x
		}
		want(t, "Chance below nought of "+what, chance(-1, 1000000).String(), "0/1")
		want(t, "Chance of all of "+what, chance(longest*longest, 1).String(), "1/1")
	})
}
