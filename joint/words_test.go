package joint_test

import (
	"math/big"
	"slices"
	"testing"

	"tontine/api"
)

// What the chapter's Words say, as they say it: over all worlds, one for each year in which each of a small party may die; and by the stated sums, for parties of any size.

// world is one way in which a party may die: the year of each death, and the chance that it comes so.
type world struct {
	deaths []int
	chance *big.Rat
}

// worldsOf is how many worlds a party has.
func worldsOf(b api.Basis, party []api.Life) int {
	count := 1
	for _, l := range party {
		count *= len(ratesOf(b.Table, l))
	}
	return count
}

func worlds(b api.Basis, party []api.Life) []world {
	all := []world{{chance: rat(1, 1)}}
	for _, l := range party {
		var more []world
		lives := rat(1, 1)
		for year, rate := range ratesOf(b.Table, l) {
			dies := times(lives, rat(int64(rate), unit))
			lives = minus(lives, dies)
			for _, w := range all {
				more = append(more, world{append(slices.Clone(w.deaths), year), times(w.chance, dies)})
			}
		}
		all = more
	}
	return all
}

// mean is that of what each world gives.
func mean(all []world, gives func(deaths []int) *big.Rat) *big.Rat {
	sum := new(big.Rat)
	for _, w := range all {
		sum.Add(sum, times(w.chance, gives(w.deaths)))
	}
	return sum
}

// livingAt is how many live n years.
func livingAt(deaths []int, n int) int {
	count := 0
	for _, year := range deaths {
		if year >= n {
			count++
		}
	}
	return count
}

// paidTo is what a pattern is worth in a world.
func paidTo(b api.Basis, deaths, pays []int, first, last int) *big.Rat {
	sum := new(big.Rat)
	for t := first; t <= last; t++ {
		sum.Add(sum, times(power(b, t), rat(int64(pays[livingAt(deaths, t)]), 1)))
	}
	return sum
}

// onDeath is what 1 at the end of the year in which the deaths come to so many is worth in a world.
func onDeath(b api.Basis, deaths []int, death, years int) *big.Rat {
	inOrder := slices.Sorted(slices.Values(deaths))
	if inOrder[death-1] >= years {
		return new(big.Rat)
	}
	return power(b, inOrder[death-1]+1)
}

// onFirst is what 1 at the end of the year in which one dies ahead of all others is worth in a world.
func onFirst(b api.Basis, deaths []int, who, years int) *big.Rat {
	first, as := slices.Min(deaths), int64(0)
	for _, year := range deaths {
		if year == first {
			as++
		}
	}
	if deaths[who] != first || first >= years {
		return new(big.Rat)
	}
	return times(power(b, first+1), rat(1, as))
}

// timesOfPays are the first and the last time of an annuity.
func timesOfPays(years int, due bool) (int, int) {
	if due {
		return 0, years - 1
	}
	return 1, years
}

// crowd is a party with what lives of it: S(n) of each life is alive[i][n] by Unit to the n.
type crowd struct {
	b     api.Basis
	alive [][]*big.Int
}

func big10(n int) *big.Int { return new(big.Int).Exp(big.NewInt(unit), big.NewInt(int64(n)), nil) }

func crowdOf(b api.Basis, party []api.Life) crowd {
	c := crowd{b: b}
	for _, l := range party {
		lives := []*big.Int{big.NewInt(1)}
		rates := ratesOf(b.Table, l)
		for n := range longest + 1 {
			p := int64(0)
			if n < len(rates) {
				p = int64(unit - rates[n])
			}
			lives = append(lives, new(big.Int).Mul(lives[n], big.NewInt(p)))
		}
		c.alive = append(c.alive, lives)
	}
	return c
}

// expand is the product of the polynomials x[i] + y[i] z, by the powers of z.
func expand(x, y []*big.Int) []*big.Int {
	coefficients := []*big.Int{big.NewInt(1)}
	for i := range x {
		next := make([]*big.Int, len(coefficients)+1)
		for k := range next {
			next[k] = new(big.Int)
		}
		for k, c := range coefficients {
			next[k].Add(next[k], new(big.Int).Mul(c, x[i]))
			next[k+1].Add(next[k+1], new(big.Int).Mul(c, y[i]))
		}
		coefficients = next
	}
	return coefficients
}

// at is, of each life, S(n), 1 - S(n) and 1, by Unit to the n.
func (c crowd) at(n int) (alive, dead, all []*big.Int) {
	for _, l := range c.alive {
		alive, dead, all = append(alive, l[n]), append(dead, new(big.Int).Sub(big10(n), l[n])), append(all, big10(n))
	}
	return alive, dead, all
}

// exactly is chances, by Unit to the number of lives times n.
func (c crowd) exactly(chances []*big.Int, n int) []*big.Rat {
	var l []*big.Rat
	for _, x := range chances {
		l = append(l, new(big.Rat).SetFrac(x, big10(n*len(c.alive))))
	}
	return l
}

// counts is the chances that N(n) is 0, 1 ..
func (c crowd) counts(n int) []*big.Int {
	alive, dead, _ := c.at(n)
	return expand(dead, alive)
}

// sums is those over all choices of 0, 1 .. lives.
func (c crowd) sums(n int) []*big.Int {
	alive, _, all := c.at(n)
	return expand(all, alive)
}

// least is the chance that N(n) is many at least.
func (c crowd) least(many, n int) *big.Rat {
	sum := new(big.Int)
	for _, chance := range c.counts(n)[many:] {
		sum.Add(sum, chance)
	}
	return c.exactly([]*big.Int{sum}, n)[0]
}

// valued is the sum, over times, of v to the t times what gives tells of t, by Unit to the number of lives times t, and by that too.
func (c crowd) valued(first, last int, gives func(t int) *big.Int, by int64) *big.Rat {
	m := len(c.alive)
	sum, all := new(big.Int), new(big.Int).Mul(big10((m-1)*max(last, 0)), new(big.Int).Exp(big.NewInt(int64(unit+c.b.Rate)), big.NewInt(int64(max(last, 0))), nil))
	for t := first; t <= last; t++ {
		later := new(big.Int).Mul(big10((m-1)*(last-t)), new(big.Int).Exp(big.NewInt(int64(unit+c.b.Rate)), big.NewInt(int64(last-t)), nil))
		sum.Add(sum, later.Mul(later, gives(t)))
	}
	return new(big.Rat).SetFrac(sum, all.Mul(all, big.NewInt(by)))
}

// annuity is the mean of what is paid, year by year.
func (c crowd) annuity(pays []int, years int, due bool) *big.Rat {
	first, last := timesOfPays(years, due)
	return c.valued(first, last, func(t int) *big.Int { return weigh(c.counts(t), pays) }, 1)
}

func weigh(l []*big.Int, weights []int) *big.Int {
	sum := new(big.Int)
	for k, x := range l {
		sum.Add(sum, new(big.Int).Mul(x, big.NewInt(int64(weights[k]))))
	}
	return sum
}

// assure goes over how many live at the beginning of a year, and at its end.
func (c crowd) assure(death, years int) *big.Rat {
	m := len(c.alive)
	return c.valued(1, years, func(t int) *big.Int {
		sum := new(big.Int)
		for lived, row := range c.bothTimes(t - 1) {
			for stay, chance := range row {
				if lived > m-death && stay <= m-death {
					sum.Add(sum, chance)
				}
			}
		}
		return sum
	}, 1)
}

// bothTimes is the chances that N(n) and N(n + 1) are so many, by Unit to the number of lives times (n + 1).
func (c crowd) bothTimes(n int) [][]*big.Int {
	m := len(c.alive)
	table := func() [][]*big.Int {
		rows := make([][]*big.Int, m+1)
		for i := range rows {
			rows[i] = make([]*big.Int, m+1)
			for j := range rows[i] {
				rows[i][j] = new(big.Int)
			}
		}
		return rows
	}
	all := table()
	all[0][0].SetInt64(1)
	for _, l := range c.alive {
		dead := new(big.Int).Mul(new(big.Int).Sub(big10(n), l[n]), big.NewInt(unit))
		dies := new(big.Int).Sub(new(big.Int).Mul(l[n], big.NewInt(unit)), l[n+1])
		next := table()
		for i := range m {
			for j := range m {
				if x := all[i][j]; x.Sign() != 0 {
					next[i][j].Add(next[i][j], new(big.Int).Mul(x, dead))
					next[i+1][j].Add(next[i+1][j], new(big.Int).Mul(x, dies))
					next[i+1][j+1].Add(next[i+1][j+1], new(big.Int).Mul(x, l[n+1]))
				}
			}
		}
		all = next
	}
	return all
}

// first goes over how many die in a year beside the one. All is by 840 too, of which each number of lives is a divisor.
func (c crowd) first(who, years int) *big.Rat {
	return c.valued(1, years, func(t int) *big.Int {
		var die, live []*big.Int
		for i, l := range c.alive {
			if i != who {
				die, live = append(die, new(big.Int).Sub(new(big.Int).Mul(l[t-1], big.NewInt(unit)), l[t])), append(live, l[t])
			}
		}
		sum := new(big.Int)
		for others, chance := range expand(live, die) {
			sum.Add(sum, chance.Mul(chance, big.NewInt(int64(840/(others+1)))))
		}
		l := c.alive[who]
		return sum.Mul(sum, new(big.Int).Sub(new(big.Int).Mul(l[t-1], big.NewInt(unit)), l[t]))
	}, 840)
}

// behind is of the first two lives.
func (c crowd) behind(years int) *big.Rat {
	two := crowd{c.b, c.alive[:2]}
	return two.valued(1, years, func(t int) *big.Int {
		return new(big.Int).Mul(c.alive[0][t], new(big.Int).Sub(big10(t), c.alive[1][t]))
	}, 1)
}

// Both ways to tell what the Words say are one.
func TestWords(t *testing.T) {
	r := random(143)
	eachSmallParty(func(what string, b api.Basis, party []api.Life, timesToLook []int) {
		all, c := worlds(b, party), crowdOf(b, party)
		for _, n := range timesToLook[:min(3, len(timesToLook))] {
			pays, due := patternFor(r, len(party)), n%2 == 0
			first, last := timesOfPays(n, due)
			want(t, "annuity of "+what, c.annuity(pays, n, due).String(), mean(all, func(deaths []int) *big.Rat { return paidTo(b, deaths, pays, first, last) }).String())
			death, who := 1+r.Intn(len(party)), r.Intn(len(party))
			want(t, "assure of "+what, c.assure(death, n).String(), mean(all, func(deaths []int) *big.Rat { return onDeath(b, deaths, death, n) }).String())
			want(t, "first of "+what, c.first(who, n).String(), mean(all, func(deaths []int) *big.Rat { return onFirst(b, deaths, who, n) }).String())
		}
	})
}
