package joint_test

import (
	"fmt"
	"math/big"
	"slices"
	"testing"

	"tontine/api"
	"tontine/interest"
	"tontine/joint"
	"tontine/smooth"
)

// wantAnnuity wants a number of Annuity and of Nesbitt.
func wantAnnuity(t *testing.T, what string, b api.Basis, party []api.Life, pays []int, years int, due bool, wanted string) {
	t.Helper()
	what = fmt.Sprint(" of ", pays, " in ", years, ", due ", due, ", of ", what)
	want(t, "Annuity"+what, tellRatio(joint.Annuity(b, party, pays, years, due)), wanted)
	want(t, "Nesbitt"+what, tellRatio(joint.Nesbitt(b, party, pays, years, due)), wanted)
}

// 14.3: what is paid for the number that live, over all worlds of small parties.
func TestAnnuityInWorlds(t *testing.T) {
	r := random(145)
	eachSmallParty(func(what string, b api.Basis, party []api.Life, times []int) {
		all := worlds(b, party)
		for _, n := range times {
			for _, due := range []bool{false, true} {
				if n > 12 && (len(all) > 4 || len(party) > 3) || len(all) > 50 && r.Intn(3) > 0 { // it would take too long
					continue
				}
				pays := patternFor(r, len(party))
				first, last := timesOfPays(n, due)
				worth := mean(all, func(deaths []int) *big.Rat { return paidTo(b, deaths, pays, first, last) })
				wantAnnuity(t, what, b, party, pays, n, due, wanted(worth))
			}
		}
	})
}

// 14.3: of parties of each number of lives, with any pattern, of short tables and of long ones.
func TestAnnuities(t *testing.T) {
	r := random(146)
	long := 0
	check := func(what string, b api.Basis, party []api.Life, times []int) {
		c := crowdOf(b, party)
		for _, n := range times {
			if n > 60 && r.Intn(4) > 0 { // all of them would take too long
				continue
			}
			pays, due := patternFor(r, len(party)), r.Intn(2) == 0
			number := wanted(c.annuity(pays, n, due))
			long += count(number == refused(api.ErrLong))
			wantAnnuity(t, what, b, party, pays, n, due, number)
		}
	}
	eachParty(check)
	eachLongParty(check)
	if long == 0 {
		t.Error("no answer was too long")
	}
}

// 14.3: Nesbitt as it is written: by chapter 10's differences at the pattern's front, and by Sums.
func TestNesbittAsWritten(t *testing.T) {
	r := random(147)
	eachParty(func(what string, b api.Basis, party []api.Life, look []int) {
		years := look[r.Intn(len(look))] % 20
		pays, due := patternFor(r, len(party)), r.Intn(2) == 0
		fronts := frontsOf(t, pays)
		first, last := timesOfPays(years, due)
		sum := new(big.Rat)
		for at := first; at <= last; at++ {
			l, e := joint.Sums(b.Table, party, at)
			for k, s := range numbers(t, l, e) {
				sum = plus(sum, times(times(s, power(b, at)), fronts[k]))
			}
		}
		want(t, fmt.Sprint("Nesbitt of ", pays, " in ", years, " of ", what), tellRatio(joint.Nesbitt(b, party, pays, years, due)), wanted(sum))
	})
}

// frontsOf is the first one of a pattern's differences of each order.
func frontsOf(t *testing.T, pays []int) []*big.Rat {
	t.Helper()
	var fronts []*big.Rat
	var l []api.Ratio
	for _, amount := range pays {
		l = append(l, api.Ratio{Num: fmt.Sprint(amount), Den: "1"})
	}
	for len(l) > 0 {
		fronts = append(fronts, number(t, l[0], api.OK))
		next, e := smooth.Differences(l, 1)
		if e != api.OK {
			t.Fatal(pays, e)
		}
		l = next
	}
	return fronts
}

// 14.3: payments at both ends of the range, in turns: the differences are as great as they may be.
func TestGreatestDifferences(t *testing.T) {
	b, two := sample()
	b.Rate = 250000
	for lives := 1; lives <= most; lives++ {
		party := slices.Repeat(two, most)[:lives]
		for _, sign := range []int{1, -1} {
			pays := make([]int, lives+1)
			for k := range pays {
				pays[k] = sign * api.MaxMoney * (1 - k%2*2)
			}
			for _, due := range []bool{false, true} {
				wantAnnuity(t, "ends", b, party, pays, 5, due, wanted(crowdOf(b, party).annuity(pays, 5, due)))
			}
		}
	}
}

// 14.3: no times, if there are no years; due, the first time is now, and the last one is not at the end.
func TestTimes(t *testing.T) {
	b, two := sample()
	b.Rate = unit // v is 1/2
	for _, c := range []struct {
		pays   []int
		years  int
		due    bool
		number string
	}{
		{[]int{1, 10, 100}, 0, true, "0/1"},
		{[]int{1, 10, 100}, 0, false, "0/1"},
		{[]int{1, 10, 100}, 1, true, "100/1"},
		{[]int{1, 10, 100}, 1, false, "3731/100"}, // half of 0.02 + 2.6 + 72
		{[]int{1, 10, 100}, 2, true, "13731/100"},
		{[]int{0, 0, 0}, longest, true, "0/1"},
		{[]int{0, 0, 0}, longest, false, "0/1"},
		{[]int{-1, -10, -100}, 2, true, "-13731/100"},
	} {
		wantAnnuity(t, "the examples' party", b, two, c.pays, c.years, c.due, c.number)
	}
}

// 14.3: what is paid when nobody lives is paid when nobody can: the annuity certain of chapter 8, if nothing hangs on how many live.
func TestCertain(t *testing.T) {
	_, two := sample()
	for _, rate := range interests {
		b := api.Basis{Table: ages(), Rate: rate}
		for lives := 1; lives <= most; lives++ {
			party := slices.Repeat(two, most)[:lives]
			for _, years := range []int{0, 1, 3, 4, 5, longest} {
				for _, due := range []bool{false, true} {
					r, e := interest.Certain(rate, years, due)
					wantAnnuity(t, "whoever lives", b, party, slices.Repeat([]int{1}, lives+1), years, due, tellRatio(r, e))
				}
			}
		}
		gone := api.Basis{Table: api.Table{Name: "t", First: 7, Rates: []int{unit}}, Rate: rate}
		r, e := interest.Certain(rate, longest, false)
		wantAnnuity(t, "nobody lives", gone, []api.Life{{Entry: 7}, {Entry: 7}}, []int{1, 5, 7}, longest, false, tellRatio(r, e))
	}
}

// 14.3: so many times as there are years, at the greatest number of these too.
func TestMostYears(t *testing.T) {
	b := api.Basis{Table: tableOf(0, oldest+1, 0, always(0)), Rate: 0}
	party := []api.Life{{}, {}, {}}
	for _, due := range []bool{false, true} {
		wantAnnuity(t, "three who live for ever", b, party, []int{0, 0, 0, 1}, longest, due, fmt.Sprint(longest, "/1"))
		wantAnnuity(t, "three who live for ever", b, party, []int{1, 1, 1, 0}, longest, due, "0/1")
	}
}

// R2: annuities of just as many digits below as MaxDigits, and of one more: five lives, of each of whom one ten-millionth is left each year, so that nothing drops out.
func TestLongestAnnuities(t *testing.T) {
	party := []api.Life{{Entry: 0}, {Entry: 1}, {Entry: 2}, {Entry: 3}, {Entry: 4}}
	a := tableOf(0, oldest+1, 0, always(unit-1))
	for _, c := range []struct{ rate, digits int }{{3, api.MaxDigits}, {196801, api.MaxDigits}, {199003, api.MaxDigits + 1}} {
		b := api.Basis{Table: a, Rate: c.rate}
		pays := []int{0, 0, 0, 0, 0, 1}
		x := crowdOf(b, party).annuity(pays, 117, false)
		if digitsOf(x) != c.digits {
			t.Error("at", c.rate, "there are", digitsOf(x), "digits, not", c.digits)
		}
		wantAnnuity(t, "many digits", b, party, pays, 117, false, wanted(x))
	}
}

// R2: it comes behind all other errors.
func TestLongIsLast(t *testing.T) {
	b := api.Basis{Table: tableOf(0, oldest+1, 0, always(1)), Rate: 3}
	babies := make([]api.Life, most)
	right := make([]int, most+1)
	right[most] = 1
	wantAnnuity(t, "eight babies", b, babies, right, longest, true, refused(api.ErrLong))
	wantAnnuity(t, "eight babies", b, babies, right[1:], longest, true, refused(api.ErrPays))
	wantAnnuity(t, "eight babies", b, babies, right, longest+1, true, refused(api.ErrRange))
	wantAnnuity(t, "eight babies, payments of nothing", b, babies, make([]int, most+1), longest, true, "0/1") // what is reckoned on the way may be longer
	right[0] = api.MaxMoney + 1
	wantAnnuity(t, "eight babies", b, babies, right, longest, true, refused(api.ErrMoney))
}
