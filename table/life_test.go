package table_test

import (
	"fmt"
	"math/big"
	"testing"

	"tontine/api"
	"tontine/table"
)

// yearsFor are numbers of years: the ends of their range, those next to a life's last rate, and some between.
func yearsFor(t api.Table, l api.Life) []int {
	all := t.First + len(t.Rates) - l.Entry - l.Years // how many rates there are
	years := []int{0, 1, 2, longest - 1, longest}
	for _, n := range []int{all / 3, all - 2, all - 1, all, all + 1, len(t.Select) - l.Years, len(t.Select) - l.Years - 1} {
		if n >= 0 && n <= longest {
			years = append(years, n)
		}
	}
	return years
}

// eachLife goes through lives of all tables.
func eachLife(do func(what string, a api.Table, l api.Life)) {
	for _, a := range tables() {
		for _, l := range livesOf(a) {
			do(fmt.Sprint(l, " of ", len(a.Rates), " rates from ", a.First, ", ", len(a.Select), " select"), a, l)
		}
	}
}

// 9.2: Rate, Survive and Die, by the Words.
func TestRateSurviveDie(t *testing.T) {
	eachLife(func(what string, a api.Table, l api.Life) {
		chance := survival(a, l)
		for _, n := range yearsFor(a, l) {
			what := fmt.Sprint(what, " in ", n)
			q := rateIn(a, l, n)
			wanted := fmt.Sprint(q)
			if q < 0 {
				wanted = refused(api.ErrNone)
			}
			want(t, "Rate of "+what, tellInt(table.Rate(a, l, n)), wanted)
			want(t, "Survive of "+what, tell(table.Survive(a, l, n)), chance(n).String())
			want(t, "Die of "+what, tell(table.Die(a, l, n)), minus(chance(n), chance(n+1)).String())
		}
	})
}

// 9.2: all years of a table of all ages, up to the last one, which nobody outlives.
func TestAllYears(t *testing.T) {
	a := tableOf(0, oldest+1, api.MaxSelect, func(d, k int) int { return 1000*k + 7*d + 3 })
	l := api.Life{}
	chance := survival(a, l)
	for n := range longest + 1 {
		want(t, "Rate", tellInt(table.Rate(a, l, n)), fmt.Sprint(rateIn(a, l, n)))
		want(t, "Survive", tell(table.Survive(a, l, n)), chance(n).String())
	}
	want(t, "Die in the last year", tell(table.Die(a, l, longest)), chance(longest).String())
	want(t, "Survive of the oldest", tell(table.Survive(a, api.Life{Entry: oldest}, 1)), "0/1")
	want(t, "Survive of the oldest", tell(table.Survive(a, api.Life{Years: oldest}, 0)), "1/1")
	want(t, "Rate of the oldest", tellInt(table.Rate(a, api.Life{Years: oldest}, 0)), fmt.Sprint(unit))
	want(t, "Rate of the oldest", tellInt(table.Rate(a, api.Life{Years: oldest}, 1)), refused(api.ErrNone))
}

// 9.2, 9.3: n out of its range; of Within ahead of what is wrong behind it.
func TestYearsOutOfRange(t *testing.T) {
	eachLife(func(what string, a api.Table, l api.Life) {
		for _, n := range noYears {
			want(t, "Rate of "+what, tellInt(table.Rate(a, l, n)), refused(api.ErrRange))
			want(t, "Survive of "+what, tell(table.Survive(a, l, n)), refused(api.ErrRange))
			want(t, "Die of "+what, tell(table.Die(a, l, n)), refused(api.ErrRange))
			want(t, "Within of "+what, tell(table.Within(a, l, n, of("1/2"), api.DieLast)), refused(api.ErrRange))
			want(t, "Within of "+what, tell(table.Within(a, l, n, of("2/4"), 0)), refused(api.ErrRange))
		}
	})
}

// expected is the sum of S(from + 1) to S(from + years), by the Words.
func expected(chance func(n int) *big.Rat, from, years int) *big.Rat {
	sum := new(big.Rat)
	for k := 1; k <= years; k++ {
		sum.Add(sum, chance(from+k))
	}
	return sum
}

// 9.4: Expect, by the Words.
func TestExpect(t *testing.T) {
	r := random(94)
	for _, a := range tables() {
		all := livesOf(a)
		for _, i := range []int{0, len(all) - 1, r.Intn(len(all)), r.Intn(len(all))} {
			l := all[i]
			chance, years := survival(a, l), yearsFor(a, l)
			for _, from := range []int{0, 1, years[len(years)-1], longest} {
				for _, n := range []int{0, 1, years[r.Intn(len(years))], longest - 1, longest} {
					what := fmt.Sprint("Expect of ", l, " of ", len(a.Rates), " rates, ", from, ", ", n)
					want(t, what, tell(table.Expect(a, l, from, n)), expected(chance, from, n).String())
				}
			}
		}
	}
}

// 9.4: from or years out of its range.
func TestExpectOutOfRange(t *testing.T) {
	for _, n := range noYears {
		for _, other := range append(noYears, 0, 1, longest) {
			want(t, "Expect", tell(table.Expect(ages(), api.Life{Entry: 60}, n, other)), refused(api.ErrRange))
			want(t, "Expect", tell(table.Expect(ages(), api.Life{Entry: 60}, other, n)), refused(api.ErrRange))
		}
	}
}

// 9.4: Probable, by the Words; also where S(n) is just 1/2, and just above it.
func TestProbable(t *testing.T) {
	half := big.NewRat(1, 2)
	eachLife(func(what string, a api.Table, l api.Life) {
		n, chance := 0, survival(a, l)
		for chance(n).Cmp(half) > 0 {
			n++
		}
		want(t, "Probable of "+what, tellInt(table.Probable(a, l)), fmt.Sprint(n))
	})
	of := func(rates ...int) api.Table { return api.Table{Name: "t", Rates: append(rates, unit)} }
	for _, c := range []struct {
		a    api.Table
		want string
	}{
		{of(unit / 2), "1"}, {of(unit/2 - 1), "2"}, {of(unit/2 + 1), "1"}, {of(), "1"}, {of(0, 0, 0), "4"},
		{of(2000000, 3750000, 0), "2"}, {of(2000000, 3749999, 0), "4"}, {of(2000000, 3749999, 1), "4"}, {of(2000000, 3749999, 2), "3"}, {of(0, 0, unit-1, 0), "3"},
	} {
		want(t, fmt.Sprint("Probable of ", c.a.Rates), tellInt(table.Probable(c.a, api.Life{})), c.want)
	}
}
