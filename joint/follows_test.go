package joint_test

import (
	"fmt"
	"math/big"
	"slices"
	"testing"

	"tontine/api"
	"tontine/joint"
	"tontine/value"
)

// eachToFollow goes over short tables, and years that are not too many for answers in MaxDigits.
func eachToFollow(do func(what string, b api.Basis, party []api.Life, years int)) {
	eachParty(func(what string, b api.Basis, party []api.Life, times []int) {
		for _, n := range times {
			if n <= 30 {
				do(fmt.Sprint(n, " years of ", what), b, party, n)
			}
		}
	})
}

func sumOf(l []*big.Rat) *big.Rat {
	sum := new(big.Rat)
	for _, x := range l {
		sum.Add(sum, x)
	}
	return sum
}

// 14.5: Alive's chances sum to 1; k times the chance that just k live, summed up, is the second of Sums; the first one is 1, the last one the last one of Alive.
func TestAliveAndSums(t *testing.T) {
	eachToFollow(func(what string, b api.Basis, party []api.Life, years int) {
		l, e := joint.Alive(b.Table, party, years)
		alive := numbers(t, l, e)
		l, e = joint.Sums(b.Table, party, years)
		sums := numbers(t, l, e)
		mean := new(big.Rat)
		for k, chance := range alive {
			mean = plus(mean, times(rat(int64(k), 1), chance))
		}
		if len(alive) != len(party)+1 || len(sums) != len(party)+1 {
			t.Fatal(len(alive), "chances and", len(sums), "sums of", what)
		}
		want(t, "all chances in "+what, sumOf(alive).String(), "1/1")
		want(t, "how many live in "+what, sums[1].String(), mean.String())
		want(t, "no choice in "+what, sums[0].String(), "1/1")
		want(t, "all of them in "+what, sums[len(party)].String(), alive[len(party)].String())
	})
}

// 14.5: Least falls with many, from 1 on, and with years; it is the sum of Alive's chances.
func TestLeastFalls(t *testing.T) {
	eachToFollow(func(what string, b api.Basis, party []api.Life, years int) {
		l, e := joint.Alive(b.Table, party, years)
		alive := numbers(t, l, e)
		before := rat(1, 1)
		for many := range len(party) + 1 {
			r, e := joint.Least(b.Table, party, many, years)
			least := number(t, r, e)
			want(t, fmt.Sprint("Least ", many, " in ", what), least.String(), sumOf(alive[many:]).String())
			r, e = joint.Least(b.Table, party, many, years+1)
			if least.Cmp(before) > 0 || number(t, r, e).Cmp(least) > 0 {
				t.Error("Least", many, "rises in", what)
			}
			before = least
		}
	})
}

// 14.6 (Schuette, Nesbitt): Nesbitt is Annuity.
func TestNesbittIsAnnuity(t *testing.T) {
	r := random(150)
	check := func(what string, b api.Basis, party []api.Life, times []int) {
		for _, n := range times {
			if n > 60 && r.Intn(4) > 0 { // all of them would take too long
				continue
			}
			pays, due := patternFor(r, len(party)), r.Intn(2) == 0
			want(t, fmt.Sprint(pays, " in ", n, " of ", what), tellRatio(joint.Nesbitt(b, party, pays, n, due)), tellRatio(joint.Annuity(b, party, pays, n, due)))
		}
	}
	eachParty(check)
	eachLongParty(check)
}

// 14.7 (W5): of two, what is paid while both live, and while at least one lives, sums to what is paid while each one lives: as this layer tells it of one life, and chapter 13.
func TestBothAndOne(t *testing.T) {
	eachToFollow(func(what string, b api.Basis, party []api.Life, years int) {
		if len(party) != 2 {
			return
		}
		for kind, due := range map[int]bool{api.BDue: true, api.BLate: false} {
			if years == 0 { // chapter 13 has no annuity of no years
				return
			}
			r, e := joint.Annuity(b, party, []int{0, 0, 1}, years, due)
			both := number(t, r, e)
			r, e = joint.Annuity(b, party, []int{0, 1, 1}, years, due)
			one := number(t, r, e)
			each := new(big.Rat)
			for _, l := range party {
				r, e = joint.Annuity(b, []api.Life{l}, []int{0, 1}, years, due)
				alone := number(t, r, e)
				r, e = value.Exact(b, l, api.Benefit{Kind: kind, Term: years})
				want(t, fmt.Sprint(l, " alone of ", what), alone.String(), number(t, r, e).String())
				each = plus(each, alone)
			}
			want(t, what, plus(both, one).String(), each.String())
		}
	})
}

// 14.7: what First gives to each of a party sums to Assure of the first death.
func TestFirstOfAll(t *testing.T) {
	eachToFollow(func(what string, b api.Basis, party []api.Life, years int) {
		sum := new(big.Rat)
		for who := range party {
			r, e := joint.First(b, party, who, years)
			sum = plus(sum, number(t, r, e))
		}
		r, e := joint.Assure(b, party, 1, years)
		want(t, what, number(t, r, e).String(), sum.String())
	})
}

// 14.8: Behind is an annuity to the one less one to both, late.
func TestBehindIsOneLessBoth(t *testing.T) {
	eachToFollow(func(what string, b api.Basis, party []api.Life, years int) {
		if len(party) < 2 {
			return
		}
		r, e := joint.Annuity(b, party[:1], []int{0, 1}, years, false)
		one := number(t, r, e)
		r, e = joint.Annuity(b, party[:2], []int{0, 0, 1}, years, false)
		both := number(t, r, e)
		r, e = joint.Behind(b, party[0], party[1], years)
		want(t, what, number(t, r, e).String(), minus(one, both).String())
	})
}

// 14.8: of one life the first death is the last one: chapter 13's assurance.
func TestAssureOfOne(t *testing.T) {
	check := func(what string, b api.Basis, party []api.Life, times []int) {
		for _, n := range times {
			if n == 0 { // chapter 13 has no assurance of no years
				continue
			}
			wanted := tellRatio(value.Exact(b, party[0], api.Benefit{Kind: api.BAssure, Term: n}))
			want(t, fmt.Sprint("Assure in ", n, " of the first of ", what), tellRatio(joint.Assure(b, party[:1], 1, n)), wanted)
			want(t, fmt.Sprint("First in ", n, " of the first of ", what), tellRatio(joint.First(b, party[:1], 0, n)), wanted)
		}
	}
	eachParty(check)
	eachLongParty(check)
}

// 14.8: the order of a party has no part in Alive, Least, Sums, Annuity and Assure; a life's place is no part of what First gives to it.
func TestOrders(t *testing.T) {
	r := random(151)
	eachToFollow(func(what string, b api.Basis, party []api.Life, years int) {
		m := len(party)
		places := r.Perm(m)
		other := make([]api.Life, m)
		for i, place := range places {
			other[place] = party[i]
		}
		pays, k, who, due := patternFor(r, m), r.Intn(m+1), r.Intn(m), r.Intn(2) == 0
		want(t, "Check", joint.Check(b.Table, other).Error(), joint.Check(b.Table, party).Error())
		want(t, "Alive in "+what, tellRatios(joint.Alive(b.Table, other, years)), tellRatios(joint.Alive(b.Table, party, years)))
		want(t, "Least in "+what, tellRatio(joint.Least(b.Table, other, k, years)), tellRatio(joint.Least(b.Table, party, k, years)))
		want(t, "Sums in "+what, tellRatios(joint.Sums(b.Table, other, years)), tellRatios(joint.Sums(b.Table, party, years)))
		want(t, "Annuity in "+what, tellRatio(joint.Annuity(b, other, pays, years, due)), tellRatio(joint.Annuity(b, party, pays, years, due)))
		want(t, "Nesbitt in "+what, tellRatio(joint.Nesbitt(b, other, pays, years, due)), tellRatio(joint.Nesbitt(b, party, pays, years, due)))
		want(t, "Assure in "+what, tellRatio(joint.Assure(b, other, who+1, years)), tellRatio(joint.Assure(b, party, who+1, years)))
		want(t, "First in "+what, tellRatio(joint.First(b, other, places[who], years)), tellRatio(joint.First(b, party, who, years)))
	})
}

// 14.4, 14.8: deaths come one behind the other: what all of them are worth is what each life's is worth, without regard to the others.
func TestAllDeaths(t *testing.T) {
	eachToFollow(func(what string, b api.Basis, party []api.Life, years int) {
		sum, each := new(big.Rat), new(big.Rat)
		for k := range party {
			r, e := joint.Assure(b, party, k+1, years)
			sum = plus(sum, number(t, r, e))
			r, e = joint.Assure(b, slices.Clone(party[k:k+1]), 1, years)
			each = plus(each, number(t, r, e))
		}
		want(t, what, sum.String(), each.String())
	})
}
