package joint_test

import (
	"fmt"
	"math/big"
	"slices"
	"testing"

	"tontine/api"
	"tontine/joint"
)

// 14.4: all deaths and all places, over all worlds of small parties.
func TestDeathsInWorlds(t *testing.T) {
	r := random(152)
	eachSmallParty(func(what string, b api.Basis, party []api.Life, times []int) {
		all := worlds(b, party)
		for _, n := range times {
			in := fmt.Sprint(" in ", n, " of ", what)
			for k := range party {
				if len(all) > 12 && (k != n%len(party) || r.Intn(3) > 0) || n == longest && k > 1 { // all of them would take too long
					continue
				}
				wanted := mean(all, func(deaths []int) *big.Rat { return onDeath(b, deaths, k+1, n) })
				want(t, fmt.Sprint("Assure ", k+1, in), tellRatio(joint.Assure(b, party, k+1, n)), wanted.String())
				wanted = mean(all, func(deaths []int) *big.Rat { return onFirst(b, deaths, k, n) })
				want(t, fmt.Sprint("First ", k, in), tellRatio(joint.First(b, party, k, n)), wanted.String())
			}
		}
	})
}

// 14.4: an annuity to the one behind the other one, over all worlds of two.
func TestBehindInWorlds(t *testing.T) {
	r := random(148)
	eachSmallParty(func(what string, b api.Basis, party []api.Life, times []int) {
		if len(party) != 2 {
			return
		}
		all := worlds(b, party)
		for _, n := range times {
			if n > 12 && r.Intn(4) > 0 { // all of them would take too long
				continue
			}
			wanted := mean(all, func(deaths []int) *big.Rat {
				sum := new(big.Rat)
				for at := 1; at <= n; at++ {
					if deaths[0] >= at && deaths[1] < at {
						sum = plus(sum, power(b, at))
					}
				}
				return sum
			})
			want(t, fmt.Sprint("Behind in ", n, " of ", what), tellRatio(joint.Behind(b, party[0], party[1], n)), wanted.String())
		}
	})
}

// 14.4: of parties of each number of lives, of short tables and of long ones.
func TestDeaths(t *testing.T) {
	r := random(149)
	long := map[string]int{}
	note := func(name, number string) string {
		long[name] += count(number == refused(api.ErrLong))
		return number
	}
	check := func(what string, b api.Basis, party []api.Life, times []int) {
		c := crowdOf(b, party)
		for _, n := range times {
			if n > 60 && r.Intn(3) > 0 { // all of them would take too long
				continue
			}
			death, who, in := 1+r.Intn(len(party)), r.Intn(len(party)), fmt.Sprint(" in ", n, " of ", what)
			want(t, fmt.Sprint("Assure ", death, in), tellRatio(joint.Assure(b, party, death, n)), note("Assure", wanted(c.assure(death, n))))
			want(t, fmt.Sprint("First ", who, in), tellRatio(joint.First(b, party, who, n)), note("First", wanted(c.first(who, n))))
			if len(party) > 1 {
				want(t, "Behind"+in, tellRatio(joint.Behind(b, party[0], party[1], n)), wanted(c.behind(n)))
			}
		}
	}
	eachParty(check)
	eachLongParty(check)
	if long["Assure"] == 0 || long["First"] == 0 {
		t.Error("no answer was too long:", long)
	}
}

// 14.4: nothing is paid in no years; the deaths of all come by the table's last age at the latest; none but the last year's, if no other one dies.
func TestDeathsAtTheEdges(t *testing.T) {
	for lives := 1; lives <= most; lives++ {
		for k := range lives {
			b, _ := sample()
			party := slices.Repeat([]api.Life{{Entry: 60}, {Entry: 61}}, most)[:lives]
			want(t, "Assure, no years", tellRatio(joint.Assure(b, party, k+1, 0)), "0/1")
			want(t, "First, no years", tellRatio(joint.First(b, party, k, 0)), "0/1")
			for _, years := range []int{4, 5, longest} {
				want(t, "Assure, no interest, all years", tellRatio(joint.Assure(b, party, k+1, years)), "1/1")
			}
			last := api.Basis{Table: tableOf(80, 3, 0, always(0)), Rate: unit}
			same := slices.Repeat([]api.Life{{Entry: 80}}, lives)
			for years, worth := range map[int]*big.Rat{0: rat(0, 1), 2: rat(0, 1), 3: rat(1, 8), 4: rat(1, 8), longest: rat(1, 8)} {
				want(t, "Assure of who die at the end", tellRatio(joint.Assure(last, same, k+1, years)), worth.String())
				want(t, "First of who die at the end", tellRatio(joint.First(last, same, k, years)), times(worth, rat(1, int64(lives))).String())
			}
			one := api.Basis{Table: api.Table{Name: "t", First: 7, Rates: []int{unit}}, Rate: unit}
			same = slices.Repeat([]api.Life{{Entry: 7}}, lives)
			want(t, "Assure of who die in the first year", tellRatio(joint.Assure(one, same, k+1, 1)), "1/2")
			want(t, "First of who die in the first year", tellRatio(joint.First(one, same, k, longest)), rat(1, int64(2*lives)).String())
		}
	}
}

// 14.4: of k who die in one year each one is the first with 1 by k, if all lived at its beginning; not if one died before.
func TestFirstOfSeveral(t *testing.T) {
	b := api.Basis{Table: api.Table{Name: "t", First: 1, Rates: []int{0, 0, 5000000, unit}}}
	party := []api.Life{{Entry: 3}, {Entry: 4}, {Entry: 2}, {Entry: 4}} // in the first year the second and the fourth one die, the first one perhaps, the third one not
	for who, wanted := range []string{"1/6", "5/12", "0/1", "5/12"} {
		want(t, fmt.Sprint("First ", who), tellRatio(joint.First(b, party, who, longest)), wanted)
	}
	for who, wanted := range []string{"5/24", "7/12", "5/24"} { // the second one dies, and each other one perhaps
		want(t, fmt.Sprint("First of three ", who), tellRatio(joint.First(b, []api.Life{{Entry: 3}, {Entry: 4}, {Entry: 3}}, who, longest)), wanted)
	}
	for who, wanted := range []string{"7/8", "1/8"} { // both die in the second year, if both live then
		want(t, fmt.Sprint("First of two ", who), tellRatio(joint.First(b, []api.Life{{Entry: 3}, {Entry: 2}}, who, longest)), wanted)
	}
}

// 14.4: Behind of the same life: it lives, and another one of its age does not; and at the edges.
func TestBehindItself(t *testing.T) {
	b, _ := sample()
	one := api.Life{Entry: 60}
	want(t, "of the same", tellRatio(joint.Behind(b, one, one, 1)), "9/100")
	want(t, "of the same, two years", tellRatio(joint.Behind(b, one, one, 2)), rat(9*100+72*28, 10000).String())
	b.Rate = 2500000
	want(t, "of the same, with interest", tellRatio(joint.Behind(b, one, one, 2)), plus(rat(9*4, 500), rat(72*28*16, 250000)).String())
	for _, l := range []api.Life{{Entry: 60}, {Entry: 63}, {Entry: 60, Years: 3}} {
		want(t, "no years", tellRatio(joint.Behind(b, one, l, 0)), "0/1")
		want(t, "who dies in the first year", tellRatio(joint.Behind(b, api.Life{Entry: 63}, l, longest)), "0/1")
	}
	b.Rate = 0
	want(t, "of who dies in the first year", tellRatio(joint.Behind(b, one, api.Life{Entry: 63}, longest)), rat(90+72+36, 100).String())
	b.Table = tableOf(0, oldest+1, 0, always(0))
	want(t, "of who dies last", tellRatio(joint.Behind(b, api.Life{}, api.Life{Entry: oldest}, longest)), fmt.Sprint(longest, "/1"))
	want(t, "of who does not die", tellRatio(joint.Behind(b, api.Life{}, api.Life{}, longest)), "0/1")
}

// R2: what is paid on deaths, of just as many digits below as MaxDigits, and of one more, and behind all other errors.
func TestLongestDeaths(t *testing.T) {
	party := []api.Life{{Entry: 0}, {Entry: 1}, {Entry: 2}, {Entry: 3}, {Entry: 4}}
	a := tableOf(0, oldest+1, 0, always(unit-1))
	for _, rate := range []int{0, 3, 196801, 199003} {
		b := api.Basis{Table: a, Rate: rate}
		c := crowdOf(b, party)
		for _, years := range []int{116, 117, 118} {
			for k := range party {
				want(t, fmt.Sprint("Assure ", k+1, " at ", rate), tellRatio(joint.Assure(b, party, k+1, years)), wanted(c.assure(k+1, years)))
				want(t, fmt.Sprint("First ", k, " at ", rate), tellRatio(joint.First(b, party, k, years)), wanted(c.first(k, years)))
			}
		}
	}
	b := api.Basis{Table: a, Rate: 199003}
	for rate, digits := range map[int]int{196801: api.MaxDigits, 199003: api.MaxDigits + 1} {
		if got := digitsOf(crowdOf(api.Basis{Table: a, Rate: rate}, party).assure(1, 117)); got != digits {
			t.Error("at", rate, "there are", got, "digits, not", digits)
		}
	}
	want(t, "Assure", tellRatio(joint.Assure(b, party, 1, 117)), refused(api.ErrLong))
	want(t, "Assure of no death", tellRatio(joint.Assure(b, party, 6, 117)), refused(api.ErrRange))
	want(t, "First of no place", tellRatio(joint.First(b, party, 5, 117)), refused(api.ErrRange))
	want(t, "Assure in too many years", tellRatio(joint.Assure(b, party, 1, longest+1)), refused(api.ErrRange))
}
