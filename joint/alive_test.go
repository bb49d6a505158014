package joint_test

import (
	"fmt"
	"math/big"
	"slices"
	"testing"

	"tontine/api"
	"tontine/joint"
	"tontine/table"
)

// 14.2: the chances that just so many live, over all worlds of small parties.
func TestAliveInWorlds(t *testing.T) {
	eachSmallParty(func(what string, b api.Basis, party []api.Life, times []int) {
		if b.Rate != 0 { // interest has no part in it
			return
		}
		all := worlds(b, party)
		for _, n := range times {
			chances := make([]*big.Rat, len(party)+1)
			for k := range chances {
				chances[k] = mean(all, func(deaths []int) *big.Rat { return rat(int64(count(livingAt(deaths, n) == k)), 1) })
				least := mean(all, func(deaths []int) *big.Rat { return rat(int64(count(livingAt(deaths, n) >= k)), 1) })
				want(t, fmt.Sprint("Least ", k, " in ", n, " of ", what), tellRatio(joint.Least(b.Table, party, k, n)), least.String())
			}
			want(t, fmt.Sprint("Alive in ", n, " of ", what), tellRatios(joint.Alive(b.Table, party, n)), wantedAll(chances))
		}
	})
}

func count(yes bool) int {
	if yes {
		return 1
	}
	return 0
}

// 14.2: Sums, over all choices one by one, of the chances that table.Survive tells.
func TestSumsOfChoices(t *testing.T) {
	look := func(what string, b api.Basis, party []api.Life, times []int) {
		for _, n := range times {
			sums := make([]*big.Rat, len(party)+1)
			for k := range sums {
				sums[k] = new(big.Rat)
			}
			var choose func(i, many int, product *big.Rat)
			choose = func(i, many int, product *big.Rat) {
				if i == len(party) {
					sums[many].Add(sums[many], product)
					return
				}
				choose(i+1, many, product)
				r, e := table.Survive(b.Table, party[i], n)
				choose(i+1, many+1, new(big.Rat).Mul(product, number(t, r, e)))
			}
			choose(0, 0, rat(1, 1))
			want(t, fmt.Sprint("Sums in ", n, " of ", what), tellRatios(joint.Sums(b.Table, party, n)), wantedAll(sums))
		}
	}
	eachSmallParty(func(what string, b api.Basis, party []api.Life, times []int) {
		if b.Rate == 0 {
			look(what, b, party, times)
		}
	})
}

// 14.2: of parties of each number of lives, of short tables and of long ones, whose answers may have too many digits (R2).
func TestChances(t *testing.T) {
	long := 0
	check := func(what string, b api.Basis, party []api.Life, times []int) {
		c := crowdOf(b, party)
		for _, n := range times {
			alive := wantedAll(c.exactly(c.counts(n), n))
			if alive == refused(api.ErrLong) {
				long++
			}
			want(t, fmt.Sprint("Alive in ", n, " of ", what), tellRatios(joint.Alive(b.Table, party, n)), alive)
			want(t, fmt.Sprint("Sums in ", n, " of ", what), tellRatios(joint.Sums(b.Table, party, n)), wantedAll(c.exactly(c.sums(n), n)))
			for many := range len(party) + 1 {
				want(t, fmt.Sprint("Least ", many, " in ", n, " of ", what), tellRatio(joint.Least(b.Table, party, many, n)), wanted(c.least(many, n)))
			}
		}
	}
	eachParty(check)
	eachLongParty(check)
	if long == 0 {
		t.Error("no answer was too long")
	}
}

// 14.2: of one life: table.Survive, and what is left to 1.
func TestOneLife(t *testing.T) {
	look := func(what string, b api.Basis, party []api.Life, times []int) {
		for _, n := range times {
			r, e := table.Survive(b.Table, party[0], n)
			s := number(t, r, e)
			want(t, fmt.Sprint("Alive in ", n, " of the first of ", what), tellRatios(joint.Alive(b.Table, party[:1], n)), wantedAll([]*big.Rat{minus(rat(1, 1), s), s}))
			want(t, fmt.Sprint("Sums in ", n, " of the first of ", what), tellRatios(joint.Sums(b.Table, party[:1], n)), wantedAll([]*big.Rat{rat(1, 1), s}))
			want(t, fmt.Sprint("Least in ", n, " of the first of ", what), tellRatio(joint.Least(b.Table, party[:1], 1, n)), s.String())
		}
	}
	eachParty(look)
	eachLongParty(look)
}

// 14.2: all live at the year 0, and none beyond the table's last age; where all rates but the last one are 0, all live till then; a first rate that is Unit.
func TestEdges(t *testing.T) {
	for lives := 1; lives <= most; lives++ {
		b, _ := sample()
		party := slices.Repeat([]api.Life{{Entry: 60}}, lives)
		zeros := func(at int) string {
			var l []*big.Rat
			for k := range lives + 1 {
				l = append(l, rat(int64(count(k == at)), 1))
			}
			return wantedAll(l)
		}
		want(t, "Alive now", tellRatios(joint.Alive(b.Table, party, 0)), zeros(lives))
		for _, n := range []int{4, 5, longest} {
			want(t, "Alive at the end", tellRatios(joint.Alive(b.Table, party, n)), zeros(0))
		}
		last, first := tableOf(0, oldest+1, 0, always(0)), api.Table{Name: "t", First: 7, Rates: []int{unit}}
		babies := make([]api.Life, lives)
		want(t, "Alive, nobody having died", tellRatios(joint.Alive(last, babies, longest)), zeros(lives))
		want(t, "Least, nobody having died", tellRatio(joint.Least(last, babies, lives, longest)), "1/1")
		party = slices.Repeat([]api.Life{{Entry: 7}}, lives)
		want(t, "Alive now, of one year", tellRatios(joint.Alive(first, party, 0)), zeros(lives))
		want(t, "Alive then, of one year", tellRatios(joint.Alive(first, party, 1)), zeros(0))
	}
	want(t, "Sums at the end", tellRatios(joint.Sums(ages(), []api.Life{{Entry: 60}, {Entry: 60}}, 4)), "1/1 0/1 0/1")
	want(t, "Sums now", tellRatios(joint.Sums(ages(), []api.Life{{Entry: 60}, {Entry: 60}, {Entry: 62}}, 0)), "1/1 3/1 3/1 1/1")
	want(t, "Sums of the oldest", tellRatios(joint.Sums(ages(), []api.Life{{Entry: 60}, {Entry: 63}}, 1)), "1/1 9/10 0/1")
}

// 14.2: one who is taken on now, and one who was a year ago.
func TestSelect(t *testing.T) {
	a := changed(func(*api.Table) {})
	want(t, "Alive", tellRatios(joint.Alive(a, []api.Life{{Entry: 60}, {Entry: 60, Years: 1}}, 1)), "1/100 23/100 19/25") // 0.95 and 0.8
}

// R2: the answers of just as many digits as MaxDigits, and of one more: five lives, whose chances to live one rate after the other cuts short by factors of 10.
func TestLongestAnswers(t *testing.T) {
	party := []api.Life{{Entry: 0}, {Entry: 1}, {Entry: 2}, {Entry: 3}, {Entry: 4}}
	tenths := func(ages ...int) api.Table {
		return tableOf(0, oldest+1, 0, func(_, k int) int {
			if slices.Contains(ages, k) {
				return 70 // what is left is a multiple of 10, of 100 not
			}
			return 1
		})
	}
	for _, c := range []struct {
		t      api.Table
		years  int
		digits int
	}{
		{tenths(), 117, api.MaxDigits},
		{tenths(0, 2, 10, 11, 12, 13, 14, 15), 118, api.MaxDigits + 1},
		{tenths(0, 1, 2, 10, 11, 12, 13, 14, 15), 118, api.MaxDigits - 1},
		{tenths(4, 10, 11, 12, 13, 14, 15), 118, api.MaxDigits},
	} {
		crowd := crowdOf(api.Basis{Table: c.t}, party)
		chances, sums := crowd.exactly(crowd.counts(c.years), c.years), crowd.exactly(crowd.sums(c.years), c.years)
		all := chances[len(party)]
		if digitsOf(all) != c.digits {
			t.Error("the chance that all live has", digitsOf(all), "digits, not", c.digits)
		}
		want(t, fmt.Sprint("Alive of ", c.digits, " digits"), tellRatios(joint.Alive(c.t, party, c.years)), wantedAll(chances))
		want(t, fmt.Sprint("Sums of ", c.digits, " digits"), tellRatios(joint.Sums(c.t, party, c.years)), wantedAll(sums))
		for many := range len(party) + 1 {
			want(t, fmt.Sprint("Least ", many, " of ", c.digits, " digits"), tellRatio(joint.Least(c.t, party, many, c.years)), wanted(crowd.least(many, c.years)))
		}
	}
}
