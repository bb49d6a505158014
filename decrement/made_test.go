package decrement_test

import (
	"fmt"
	"math"
	"math/big"
	"slices"
	"strings"
	"testing"

	"tontine/api"
	"tontine/decrement"
	"tontine/table"
)

// 15.4: each cause alone, and all others, in order; of one alone there are no others.
func TestAloneAndWithout(t *testing.T) {
	eachCauses(func(what string, c api.Causes) {
		for cause := range c.Rates {
			alone := api.Causes{First: c.First, Rates: c.Rates[cause : cause+1]}
			want(t, fmt.Sprint("Alone ", cause, " of ", what), tellCauses(decrement.Alone(c, cause)), fmt.Sprint(alone))
			others := api.Causes{First: c.First, Rates: slices.Delete(slices.Clone(c.Rates), cause, cause+1)}
			wanted := fmt.Sprint(others)
			if len(c.Rates) == 1 {
				wanted = refused(api.ErrCauses)
			}
			want(t, fmt.Sprint("Without ", cause, " of ", what), tellCauses(decrement.Without(c, cause)), wanted)
		}
	})
}

// 15.4: a place at which there is no cause, also of one cause alone.
func TestNoSuchCauses(t *testing.T) {
	eachCauses(func(what string, c api.Causes) {
		for _, cause := range []int{-1, -2, len(c.Rates), len(c.Rates) + 1, most + 1, math.MinInt, math.MaxInt} {
			want(t, fmt.Sprint("Alone ", cause, " of ", what), tellCauses(decrement.Alone(c, cause)), refused(api.ErrNone))
			want(t, fmt.Sprint("Without ", cause, " of ", what), tellCauses(decrement.Without(c, cause)), refused(api.ErrNone))
		}
	})
}

// rateOf is the rate of a stay: 1 less it in ten-millionths, rounded half to even, below Unit.
func rateOf(stay *big.Rat) int {
	x := times(minus(rat(1, 1), stay), rat(unit, 1))
	n, rest := new(big.Int).DivMod(x.Num(), x.Denom(), new(big.Int))
	half := new(big.Rat).SetFrac(rest, x.Denom()).Cmp(rat(1, 2))
	if half > 0 || half == 0 && n.Bit(0) == 1 {
		n.Add(n, big.NewInt(1))
	}
	return min(int(n.Int64()), unit-1)
}

// 15.5: the life table by which as many die as leave; none, where nobody stays at an age below Last.
func TestTables(t *testing.T) {
	made, refusals := 0, 0
	look := func(what string, c api.Causes) {
		a := api.Table{Name: "all_1", First: c.First}
		nobody := false
		for age := c.First; age < lastOf(c); age++ {
			stay := stayOf(atAge(c, age), rat(1, 1))
			nobody = nobody || stay.Sign() == 0
			a.Rates = append(a.Rates, rateOf(stay))
		}
		a.Rates = append(a.Rates, unit)
		wanted := fmt.Sprint(a)
		if nobody {
			wanted = refused(api.ErrRates)
			refusals++
		} else {
			made++
			want(t, "layer 9 of "+what, table.Check(a).Error(), api.OK.Error())
		}
		want(t, "Table of "+what, tellTable(decrement.Table(c, "all_1")), wanted)
	}
	eachCauses(look)
	eachLongCauses(look)
	if made < 10 || refusals < 5 {
		t.Error(made, "tables were made,", refusals, "were none")
	}
}

// 15.5: names that are none, ahead of rates that make no table; a name may have MaxName bytes.
func TestNames(t *testing.T) {
	nobody := causesOf(7, 2, 3, always(unit))
	for _, name := range []string{"", "A", "1a", "_a", "a b", "a-b", "aB", "ä", "a\x00", "a\n", strings.Repeat("a", api.MaxName+1), strings.Repeat("a", api.MaxText+1)} {
		for _, c := range []api.Causes{sample(), nobody} {
			want(t, "Table of the name "+short(name), tellTable(decrement.Table(c, name)), refused(api.ErrForm))
		}
	}
	for _, name := range []string{"a", "z9_", strings.Repeat("a", api.MaxName)} {
		want(t, "Table of the name "+name, tellTable(decrement.Table(sample(), name)), fmt.Sprint(api.Table{Name: name, First: 30, Rates: []int{unit}}))
		want(t, "Table of the name "+name+", nobody staying", tellTable(decrement.Table(nobody, name)), refused(api.ErrRates))
	}
}

// 15.5: a stay just half way between two ten-millionths is rounded to even; a rate that is rounded to Unit is one less; nobody may stay at Last.
func TestRoundedRates(t *testing.T) {
	for _, c := range []struct {
		rates []int
		rate  int
	}{
		{[]int{unit / 2, 1}, unit / 2}, {[]int{unit / 2, 3}, unit/2 + 2}, {[]int{5, unit / 2}, unit/2 + 2}, {[]int{7, unit / 2}, unit/2 + 4}, {[]int{unit / 2, 2}, unit/2 + 1},
		{[]int{1, 1}, 2}, {[]int{0, 0, 0}, 0}, {[]int{0, 4321}, 4321}, {[]int{unit - 1, 0}, unit - 1},
		{[]int{unit - 1, unit / 2}, unit - 1}, {[]int{unit - 1, unit - 1}, unit - 1}, {[]int{unit - 1, unit - 1, unit - 1, 5}, unit - 1}, {[]int{unit - 2, unit / 2}, unit - 1}, {[]int{unit - 3, unit / 2}, unit - 2},
		{[]int{1000000, 2000000}, 2800000},
	} {
		for _, end := range []int{0, 5, unit} { // the rates at Last have no part in it
			two := causesOf(60, len(c.rates), 2, func(cause, k int) int { return []int{c.rates[cause], end}[k] })
			want(t, fmt.Sprint("Table of ", two), tellTable(decrement.Table(two, "t")), fmt.Sprint(api.Table{Name: "t", First: 60, Rates: []int{c.rate, unit}}))
		}
	}
	for k := range 4 {
		for cause := range 3 {
			c := causesOf(60, 3, 4, always(7))
			c.Rates[cause][k] = unit
			wanted := refused(api.ErrRates)
			if k == 3 {
				wanted = fmt.Sprint(api.Table{Name: "t", First: 60, Rates: []int{21, 21, 21, unit}})
			}
			want(t, fmt.Sprint("Table of ", c), tellTable(decrement.Table(c, "t")), wanted)
		}
	}
}
