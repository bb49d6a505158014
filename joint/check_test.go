package joint_test

import (
	"fmt"
	"math"
	"slices"
	"testing"

	"tontine/api"
	"tontine/joint"
)

// calls are all calls that are given a basis and a party; if wrong, with all wrong that stands behind the party.
func calls(wrong bool) map[string]func(b api.Basis, party []api.Life) string {
	n := func(right int) int {
		if wrong {
			return -1
		}
		return right
	}
	pays := func(party []api.Life) []int {
		if wrong {
			return []int{math.MinInt}
		}
		return make([]int, len(party)+1)
	}
	return map[string]func(b api.Basis, party []api.Life) string{
		"Annuity": func(b api.Basis, party []api.Life) string {
			return tellRatio(joint.Annuity(b, party, pays(party), n(2), true))
		},
		"Nesbitt": func(b api.Basis, party []api.Life) string {
			return tellRatio(joint.Nesbitt(b, party, pays(party), n(2), false))
		},
		"Assure": func(b api.Basis, party []api.Life) string {
			return tellRatio(joint.Assure(b, party, n(1), n(2)))
		},
		"First": func(b api.Basis, party []api.Life) string {
			return tellRatio(joint.First(b, party, n(0), n(2)))
		},
	}
}

// callsOfTable are those that are given a table and a party.
func callsOfTable(wrong bool) map[string]func(t api.Table, party []api.Life) string {
	n := func(right int) int {
		if wrong {
			return -1
		}
		return right
	}
	return map[string]func(t api.Table, party []api.Life) string{
		"Check": func(t api.Table, party []api.Life) string { return joint.Check(t, party).Error() },
		"Alive": func(t api.Table, party []api.Life) string { return tellRatios(joint.Alive(t, party, n(2))) },
		"Least": func(t api.Table, party []api.Life) string { return tellRatio(joint.Least(t, party, n(1), n(2))) },
		"Sums":  func(t api.Table, party []api.Life) string { return tellRatios(joint.Sums(t, party, n(2))) },
	}
}

// behind is Behind of a party's first two lives.
func behind(b api.Basis, party []api.Life, years int) string {
	return tellRatio(joint.Behind(b, party[0], party[1], years))
}

// wantRefused wants each call to answer an error, whatever else is wrong behind it.
func wantRefused(t *testing.T, what string, b api.Basis, party []api.Life, e api.Errno) {
	t.Helper()
	for _, wrong := range []bool{false, true} {
		for name, call := range calls(wrong) {
			want(t, name+" of "+what, call(b, party), refused(e))
		}
	}
}

// wantTableRefused wants it of all that are given a table alone.
func wantTableRefused(t *testing.T, what string, a api.Table, party []api.Life, e api.Errno) {
	t.Helper()
	for _, wrong := range []bool{false, true} {
		for name, call := range callsOfTable(wrong) {
			want(t, name+" of "+what, call(a, party), refused(e))
		}
	}
}

// 14.1: a table that is not right: chapter 9's error, ahead of all others.
func TestNoTables(t *testing.T) {
	for what, c := range map[string]struct {
		t api.Table
		e api.Errno
	}{
		"no name":              {changed(func(t *api.Table) { t.Name = "" }), api.ErrForm},
		"a wrong name":         {changed(func(t *api.Table) { t.Name = "T" }), api.ErrForm},
		"no first age":         {changed(func(t *api.Table) { t.First = -1 }), api.ErrAge},
		"a last age too great": {changed(func(t *api.Table) { t.First = oldest - 2 }), api.ErrAge},
		"a first age too far":  {changed(func(t *api.Table) { t.First = math.MaxInt }), api.ErrAge},
		"no rates":             {changed(func(t *api.Table) { t.Rates = nil }), api.ErrAge},
		"a rate below 0":       {changed(func(t *api.Table) { t.Rates[1] = -1 }), api.ErrRates},
		"a rate of Unit":       {changed(func(t *api.Table) { t.Rates[1] = unit }), api.ErrRates},
		"no Unit at the end":   {changed(func(t *api.Table) { t.Rates[3] = unit - 1 }), api.ErrRates},
		"a short Select":       {changed(func(t *api.Table) { t.Select[0] = t.Select[0][1:] }), api.ErrRates},
		"a wrong Select":       {changed(func(t *api.Table) { t.Select[0][0] = unit + 1 }), api.ErrRates},
		"all wrong":            {broken().Table, api.ErrForm},
	} {
		for _, party := range [][]api.Life{{{Entry: 60}, {Entry: 61}}, {{Entry: 60}, {Entry: -1}}, nil, make([]api.Life, most+1)} {
			wantTableRefused(t, what, c.t, party, c.e)
			for _, rate := range []int{0, 250000, -1} {
				wantRefused(t, what, api.Basis{Table: c.t, Rate: rate}, party, c.e)
				for _, years := range []int{2, -1} {
					want(t, "Behind of "+what, behind(api.Basis{Table: c.t, Rate: rate}, []api.Life{{Entry: 60}, {Entry: -1}}, years), refused(c.e))
				}
			}
		}
	}
}

// 14.1: a basis whose Rate is out of its range, ahead of a party that is none.
func TestNoBasis(t *testing.T) {
	for _, rate := range []int{-1, -unit, -unit - 1, api.MaxRate + 1, math.MinInt, math.MaxInt} {
		b := api.Basis{Table: ages(), Rate: rate}
		for _, party := range [][]api.Life{{{Entry: 60}, {Entry: 61}}, {{Entry: 60}, {Entry: -1}}, nil, make([]api.Life, most+1)} {
			wantRefused(t, fmt.Sprint("the rate ", rate), b, party, api.ErrRange)
		}
		for _, years := range []int{2, -1} {
			want(t, fmt.Sprint("Behind at the rate ", rate), behind(b, []api.Life{{Entry: -1}, {Entry: 61}}, years), refused(api.ErrRange))
		}
	}
	for _, rate := range []int{0, api.MaxRate} {
		b, party := sample()
		b.Rate = rate
		for name, call := range calls(false) {
			if got := call(b, party); got == refused(api.ErrRange) {
				t.Error(name, "at the rate", rate, got)
			}
		}
	}
}

// 14.1: a party of no life, or of too many (no ErrLong, however many they are: R3), ahead of all that stands behind it.
func TestTooFewTooMany(t *testing.T) {
	for _, a := range append(tables(), longTables()...) {
		for _, lives := range []int{0, most + 1, most + 2, api.MaxItems, api.MaxItems + 1} {
			for _, l := range []api.Life{{Entry: a.First}, {Entry: -1}} {
				party := slices.Repeat([]api.Life{l}, lives)
				wantTableRefused(t, fmt.Sprint(lives, " lives"), a, party, api.ErrParty)
				wantRefused(t, fmt.Sprint(lives, " lives"), api.Basis{Table: a, Rate: 5}, party, api.ErrParty)
			}
		}
		wantTableRefused(t, "nobody", a, nil, api.ErrParty)
		wantRefused(t, "nobody", api.Basis{Table: a, Rate: 5}, nil, api.ErrParty)
	}
}

// 14.1: one of whom is not of the table, at each place of a party of each number of lives: no ErrAge.
func TestNoLives(t *testing.T) {
	r := random(144)
	for _, a := range append(tables(), longTables()...) {
		b := api.Basis{Table: a, Rate: 5}
		for _, l := range noLives(a) {
			for lives := 1; lives <= most; lives++ {
				party := partyOf(r, a, lives)
				party[r.Intn(lives)] = l
				what := fmt.Sprint(party)
				wantTableRefused(t, what, a, party, api.ErrParty)
				wantRefused(t, what, b, party, api.ErrParty)
			}
			for _, years := range []int{2, -1} {
				right := anyLife(r, a)
				want(t, fmt.Sprint("Behind of ", l), behind(b, []api.Life{l, right}, years), refused(api.ErrParty))
				want(t, fmt.Sprint("Behind of ", l), behind(b, []api.Life{right, l}, years), refused(api.ErrParty))
				want(t, fmt.Sprint("Behind of ", l), behind(b, []api.Life{l, l}, years), refused(api.ErrParty))
			}
		}
	}
	b, _ := sample()
	for lives := 1; lives <= most; lives++ {
		for place := range lives {
			party := slices.Repeat([]api.Life{{Entry: 60}}, lives)
			party[place].Years = 4
			wantTableRefused(t, fmt.Sprint(party), b.Table, party, api.ErrParty)
			wantRefused(t, fmt.Sprint(party), b, party, api.ErrParty)
		}
	}
}

// 14.1: parties that are right, from 1 to MaxParty lives: at their table's first and last age, now or years ago, twice the same.
func TestRight(t *testing.T) {
	check := func(what string, b api.Basis, party []api.Life, _ []int) {
		want(t, "Check of "+what, joint.Check(b.Table, party).Error(), api.OK.Error())
		for name, call := range callsOfTable(false) {
			if got := call(b.Table, party); name != "Check" && (got == refused(api.ErrParty) || got == refused(api.ErrRange)) {
				t.Error(name, what, got)
			}
		}
		for name, call := range calls(false) {
			if got := call(b, party); got == refused(api.ErrParty) || got == refused(api.ErrRange) {
				t.Error(name, what, got)
			}
		}
	}
	eachParty(check)
	eachLongParty(check)
	for lives := 1; lives <= most; lives++ {
		for _, l := range []api.Life{{Entry: 60}, {Entry: 63}, {Entry: 60, Years: 3}} {
			b, _ := sample()
			check(fmt.Sprint(lives, " times ", l), b, slices.Repeat([]api.Life{l}, lives), nil)
		}
	}
}

// eachOfSome goes over the examples' party, one of one life, and one of MaxParty.
func eachOfSome(do func(b api.Basis, party []api.Life)) {
	b, two := sample()
	b.Rate = 250000
	for _, party := range [][]api.Life{two, {{Entry: 61}}, slices.Repeat(two, most/2)} {
		do(b, party)
	}
}

// 14.1 to 14.4: years that are none; all from 0 to MaxYears are.
func TestNoYears(t *testing.T) {
	eachOfSome(func(b api.Basis, party []api.Life) {
		m := len(party)
		check := func(years int, e string) {
			t.Helper()
			pays := make([]int, m+1)
			for name, got := range map[string]string{
				"Alive":   tellRatios(joint.Alive(b.Table, party, years)),
				"Least":   tellRatio(joint.Least(b.Table, party, m, years)),
				"Sums":    tellRatios(joint.Sums(b.Table, party, years)),
				"Annuity": tellRatio(joint.Annuity(b, party, pays, years, true)),
				"Late":    tellRatio(joint.Annuity(b, party, pays, years, false)),
				"Nesbitt": tellRatio(joint.Nesbitt(b, party, pays, years, true)),
				"Assure":  tellRatio(joint.Assure(b, party, 1, years)),
				"First":   tellRatio(joint.First(b, party, 0, years)),
				"Behind":  tellRatio(joint.Behind(b, party[0], party[m-1], years)),
			} {
				if (got == refused(api.ErrRange)) != (e != "") {
					t.Errorf("%s of %v in %d years: %s", name, party, years, short(got))
				}
			}
		}
		for _, years := range noYears {
			check(years, refused(api.ErrRange))
		}
		for years := 0; years <= longest; years += 1 + m/most*12 { // each of the years for eight lives would take too long; the last ones are among them
			check(years, "")
		}
	})
}

// 14.2, 14.4: how many, a death or a place out of its range: just beyond each end, and far.
func TestOutOfRange(t *testing.T) {
	eachOfSome(func(b api.Basis, party []api.Life) {
		m := len(party)
		for _, years := range []int{0, 2, longest, longest + 1} {
			for _, x := range []int{-1, m + 1, m + 2, math.MinInt, math.MaxInt} {
				want(t, fmt.Sprint("Least ", x, " of ", m), tellRatio(joint.Least(b.Table, party, x, years)), refused(api.ErrRange))
				want(t, fmt.Sprint("Assure ", x, " of ", m), tellRatio(joint.Assure(b, party, x, years)), refused(api.ErrRange))
				want(t, fmt.Sprint("First ", x, " of ", m), tellRatio(joint.First(b, party, x, years)), refused(api.ErrRange))
			}
			want(t, "Assure of no death", tellRatio(joint.Assure(b, party, 0, years)), refused(api.ErrRange))
			want(t, "First of the place behind the last", tellRatio(joint.First(b, party, m, years)), refused(api.ErrRange))
		}
		for k := range m {
			for name, got := range map[string]string{
				"Least":          tellRatio(joint.Least(b.Table, party, k, 1)),
				"Least, the end": tellRatio(joint.Least(b.Table, party, k+1, 1)),
				"Assure":         tellRatio(joint.Assure(b, party, k+1, 1)),
				"First":          tellRatio(joint.First(b, party, k, 1)),
			} {
				if got == refused(api.ErrRange) {
					t.Error(name, k, "of", m, got)
				}
			}
		}
	})
}

// annuities are Annuity and Nesbitt, which have the same errors, due or not.
func annuities(b api.Basis, party []api.Life, pays []int, years int) map[string]string {
	told := map[string]string{}
	for _, due := range []bool{false, true} {
		told[fmt.Sprint("Annuity due ", due)] = tellRatio(joint.Annuity(b, party, pays, years, due))
		told[fmt.Sprint("Nesbitt due ", due)] = tellRatio(joint.Nesbitt(b, party, pays, years, due))
	}
	return told
}

// 14.1, 14.3: a pattern with too few or too many payments, however many they are (R3), ahead of one that is no amount, and of wrong years.
func TestNoPatterns(t *testing.T) {
	eachOfSome(func(b api.Basis, party []api.Life) {
		m := len(party)
		for _, count := range []int{0, 1, m - 1, m, m + 2, m + 3, api.MaxItems, api.MaxItems + 1} {
			if count == m+1 {
				continue
			}
			for _, amount := range []int{0, 1, api.MaxMoney + 1} {
				for _, years := range []int{2, -1} {
					for name, got := range annuities(b, party, slices.Repeat([]int{amount}, count), years) {
						want(t, fmt.Sprint(name, " of ", count, " payments for ", m), got, refused(api.ErrPays))
					}
				}
			}
		}
		for name, got := range annuities(b, party, nil, 2) {
			want(t, name+" of no payments", got, refused(api.ErrPays))
		}
	})
}

// 14.1, 14.3: a payment that is no amount, at each place, ahead of wrong years; those at both ends of the range are amounts.
func TestNoAmounts(t *testing.T) {
	eachOfSome(func(b api.Basis, party []api.Life) {
		for k := range len(party) + 1 {
			for _, amount := range []int{-api.MaxMoney - 1, api.MaxMoney + 1, math.MinInt, math.MaxInt} {
				for _, years := range []int{0, 2, -1, longest + 1} {
					pays := make([]int, len(party)+1)
					pays[k] = amount
					for name, got := range annuities(b, party, pays, years) {
						want(t, fmt.Sprint(name, " of ", pays), got, refused(api.ErrMoney))
					}
				}
			}
			for _, amount := range []int{-api.MaxMoney, api.MaxMoney} {
				pays := make([]int, len(party)+1)
				pays[k] = amount
				for name, got := range annuities(b, party, pays, 2) {
					if got == refused(api.ErrMoney) {
						t.Error(name, "of", pays, got)
					}
				}
			}
		}
	})
}
