package value_test

import (
	"fmt"
	"math/big"
	"testing"

	"tontine/api"
	"tontine/table"
	"tontine/value"
)

// 13.3: the value is the mean of W(k).
func TestExact(t *testing.T) {
	check := func(what string, b api.Basis, l api.Life, f api.Benefit) {
		want(t, "Exact of "+what, tellRatio(value.Exact(b, l, f)), worldOf(b, l).value(f).String())
	}
	eachBenefit(4, check)
	eachLongBenefit(2, check)
}

// 13.3: the chances of the Words are those of table.Die: so much is 1 worth on a death in each year.
func TestExactOfOneYear(t *testing.T) {
	eachLife(func(what string, b api.Basis, l api.Life) {
		for _, k := range []int{0, 1, 2, len(ratesOf(b.Table, l)) - 1, len(ratesOf(b.Table, l)), longest} {
			r, e := table.Die(b.Table, l, k)
			wanted := times(number(t, r, e), power(b, k+1))
			want(t, fmt.Sprint("Exact of the year ", k, " of ", what), tellRatio(value.Exact(b, l, api.Benefit{Kind: api.BAssure, Wait: k, Term: 1})), wanted.String())
		}
	})
}

// 13.3: each kind of the examples' life at no interest, of whom 0.1, 0.18, 0.36 and 0.36 die, a year each; of 1000 in a hundred as well.
func TestKinds(t *testing.T) {
	b, l := sample()
	b.Rate = 0
	for kind, wanted := range map[int]string{api.BAssure: "27/50", api.BEndow: "9/25", api.BBoth: "9/10", api.BDue: "81/50", api.BLate: "27/25", api.BRising: "9/10", api.BFalling: "18/25"} {
		want(t, fmt.Sprint("kind ", kind), tellRatio(value.Exact(b, l, api.Benefit{Kind: kind, Wait: 1, Term: 2})), wanted)
	}
	b.Rate = api.MaxRate // v = 1/11
	for kind, wanted := range map[int]*big.Rat{api.BAssure: rat(18*11+36, 133100), api.BEndow: rat(36, 133100), api.BDue: rat(90*11+72, 12100), api.BLate: rat(72*11+36, 133100), api.BRising: rat(18*11+72, 133100), api.BFalling: rat(36*11+36, 133100)} {
		want(t, fmt.Sprint("kind ", kind), tellRatio(value.Exact(b, l, api.Benefit{Kind: kind, Wait: 1, Term: 2})), wanted.String())
	}
}

// 13.3: of tables whose rates are 0 but the last one, and of one who dies for sure in a year.
func TestSureDeaths(t *testing.T) {
	last, later := api.Basis{Table: tableOf(0, oldest+1, 0, always(0))}, api.Basis{Table: api.Table{Name: "t", First: 7, Rates: []int{unit}}, Rate: unit}
	for kind, wanted := range map[int]string{api.BAssure: "0/1", api.BEndow: "1/1", api.BBoth: "1/1", api.BDue: "130/1", api.BLate: "130/1", api.BRising: "0/1", api.BFalling: "0/1"} {
		want(t, fmt.Sprint("kind ", kind), tellRatio(value.Exact(last, api.Life{}, api.Benefit{Kind: kind, Term: longest})), wanted)
	}
	for kind, wanted := range map[int]string{api.BAssure: "1/1", api.BEndow: "0/1", api.BBoth: "1/1", api.BDue: "130/1", api.BLate: "129/1", api.BRising: "130/1", api.BFalling: "1/1"} {
		want(t, fmt.Sprint("kind ", kind, " a year later"), tellRatio(value.Exact(last, api.Life{}, api.Benefit{Kind: kind, Wait: 1, Term: longest})), wanted)
	}
	for kind, wanted := range map[int]string{api.BAssure: "1/2", api.BEndow: "0/1", api.BBoth: "1/2", api.BDue: "1/1", api.BLate: "0/1", api.BRising: "1/2", api.BFalling: "3/2"} {
		want(t, fmt.Sprint("kind ", kind, " of one year"), tellRatio(value.Exact(later, api.Life{Entry: 7}, api.Benefit{Kind: kind, Term: 3})), wanted)
	}
	want(t, "BDue that is sure", tellRatio(value.Exact(later, api.Life{Entry: 7}, api.Benefit{Kind: api.BDue, Wait: 1, Term: 3, Sure: 2})), "3/4")
	want(t, "BLate that is sure", tellRatio(value.Exact(later, api.Life{Entry: 7}, api.Benefit{Kind: api.BLate, Wait: 1, Term: 3, Sure: 2})), "3/8")
}

// 13.3: a select life, and the same one when that has ended.
func TestSelect(t *testing.T) {
	b := api.Basis{Table: changed(func(*api.Table) {})}
	f := api.Benefit{Kind: api.BAssure, Term: 2}
	want(t, "taken on now", tellRatio(value.Exact(b, api.Life{Entry: 60}, f)), rat(5*100+95*20, 10000).String()) // 0.05, then 0.2
	want(t, "taken on a year ago", tellRatio(value.Exact(b, api.Life{Entry: 60, Years: 1}, f)), rat(2*10+8*5, 100).String())
	want(t, "later, taken on now", tellRatios(value.Later(b, api.Life{Entry: 60}, f)), "6/25 1/5 0/1 0/1")
}

// 13.3: Later, for each year for which there is a rate.
func TestLater(t *testing.T) {
	eachBenefit(2, func(what string, b api.Basis, l api.Life, f api.Benefit) {
		w := worldOf(b, l)
		var wanted []api.Ratio
		for year := range w.deaths {
			wanted = append(wanted, ratioOf(w.still(f, year)))
		}
		want(t, "Later of "+what, tellRatios(value.Later(b, l, f)), tellRatios(wanted, api.OK))
	})
	eachLongBenefit(1, func(what string, b api.Basis, l api.Life, f api.Benefit) {
		w := worldOf(b, l)
		got, e := value.Later(b, l, f)
		m := len(w.deaths)
		if e != api.OK || len(got) != m {
			t.Fatalf("Later of %s: %d members, %v", what, len(got), e)
		}
		for _, year := range []int{0, 1, f.Wait - 1, f.Wait, f.Wait + f.Sure, f.Wait + f.Term - 1, f.Wait + f.Term, m / 2, m - 2, m - 1} {
			if year >= 0 && year < m {
				want(t, fmt.Sprint("Later(", year, ") of ", what), tellRatio(got[year], e), w.still(f, year).String())
			}
		}
	})
}

// 13.3: what is sure is still to come, as long as it lies at the times that are looked at: of BDue from t on, of BLate behind t. What falls due at the time t counts of BDue alone.
func TestLaterAtItsEdges(t *testing.T) {
	b := api.Basis{Table: tableOf(0, 5, 0, always(0))}
	for _, c := range []struct {
		f      api.Benefit
		wanted string
	}{
		{api.Benefit{Kind: api.BDue, Wait: 1, Term: 2}, "2/1 2/1 1/1 0/1 0/1"},
		{api.Benefit{Kind: api.BDue, Wait: 1, Term: 2, Sure: 1}, "2/1 2/1 1/1 0/1 0/1"},
		{api.Benefit{Kind: api.BDue, Wait: 1, Term: 2, Sure: 2}, "2/1 2/1 1/1 0/1 0/1"},
		{api.Benefit{Kind: api.BLate, Wait: 1, Term: 2}, "2/1 2/1 1/1 0/1 0/1"},
		{api.Benefit{Kind: api.BLate, Wait: 1, Term: 2, Sure: 2}, "2/1 2/1 1/1 0/1 0/1"},
		{api.Benefit{Kind: api.BDue, Wait: 3, Term: 9}, "2/1 2/1 2/1 2/1 1/1"},
		{api.Benefit{Kind: api.BDue, Wait: 3, Term: 9, Sure: 4}, "4/1 4/1 4/1 4/1 3/1"},
		{api.Benefit{Kind: api.BLate, Wait: 3, Term: 9}, "1/1 1/1 1/1 1/1 0/1"},
		{api.Benefit{Kind: api.BLate, Wait: 3, Term: 9, Sure: 4}, "4/1 4/1 4/1 4/1 3/1"},
		{api.Benefit{Kind: api.BDue, Wait: 130, Term: 130, Sure: 130}, "130/1 130/1 130/1 130/1 130/1"},
		{api.Benefit{Kind: api.BEndow, Wait: 1, Term: 2}, "1/1 1/1 1/1 0/1 0/1"},
		{api.Benefit{Kind: api.BBoth, Wait: 1, Term: 2}, "1/1 1/1 1/1 0/1 0/1"},
		{api.Benefit{Kind: api.BAssure, Wait: 1, Term: 9}, "1/1 1/1 1/1 1/1 1/1"},
		{api.Benefit{Kind: api.BRising, Wait: 1, Term: 9}, "4/1 4/1 4/1 4/1 4/1"},
		{api.Benefit{Kind: api.BFalling, Wait: 1, Term: 9}, "6/1 6/1 6/1 6/1 6/1"},
	} {
		want(t, fmt.Sprint("Later of ", c.f), tellRatios(value.Later(b, api.Life{}, c.f)), c.wanted)
	}
}

// R2: no answer can have more digits than may be answered: the denominator of a value divides (Unit + Rate) to the time of the last payment, that of a spread its square, that of a chance Unit to the number of years. The longest ones are answered, Wait and Term at their ends.
func TestLongestAnswers(t *testing.T) {
	longestOf := map[string]int{}
	look := func(name string, l []api.Ratio, e api.Errno) {
		t.Helper()
		if e != api.OK {
			t.Fatal(name, e)
		}
		for _, r := range l {
			longestOf[name] = max(longestOf[name], len(r.Num), len(r.Den))
		}
	}
	one := func(r api.Ratio, e api.Errno) ([]api.Ratio, api.Errno) { return []api.Ratio{r}, e }
	for _, rate := range []int{api.MaxRate - 1, api.MaxRate - 11} {
		for _, k := range []int{3, unit / 3} {
			b, l := api.Basis{Table: tableOf(0, oldest+1, 0, always(k)), Rate: rate}, api.Life{}
			for _, f := range []api.Benefit{{Kind: api.BLate, Wait: longest, Term: longest, Sure: longest}, {Kind: api.BDue, Term: longest}, {Kind: api.BLate, Term: longest, Sure: 1}, {Kind: api.BRising, Wait: 1, Term: longest}, {Kind: api.BFalling, Term: longest}} {
				r, e := one(value.Exact(b, l, f))
				look("Exact", r, e)
				r, e = value.Later(b, l, f)
				look("Later", r, e)
				r, e = one(value.Spread(b, l, f))
				look("Spread", r, e)
			}
			r, e := one(value.Parts(b, l, api.Benefit{Kind: api.BDue, Term: longest}, 359))
			look("Parts", r, e)
		}
	}
	almost := api.Ratio{Num: "129", Den: "1"} // without interest more than that comes only to one who lives 129 years
	r, e := one(value.Chance(api.Basis{Table: tableOf(0, oldest+1, 0, always(3))}, api.Life{}, api.Benefit{Kind: api.BDue, Term: longest}, almost))
	look("Chance", r, e)
	for name, bounds := range map[string][2]int{"Exact": {2080, 2100}, "Later": {2080, 2100}, "Spread": {2080, 2120}, "Chance": {890, 918}, "Parts": {1040, 1070}} {
		if n := longestOf[name]; n < bounds[0] || n > bounds[1] {
			t.Error("the longest answer of", name, "has", n, "digits")
		}
	}
}
