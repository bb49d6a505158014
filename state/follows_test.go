package state_test

import (
	"fmt"
	"math/big"
	"testing"

	"tontine/api"
	"tontine/float"
	"tontine/span"
	"tontine/state"
	"tontine/table"
)

// moved is what Move answers.
func moved(t *testing.T, c api.Chain, from, to int) [][]*big.Rat {
	t.Helper()
	rows, e := state.Move(c, from, to)
	return numberRows(t, rows, e)
}

// worth is what Values answers.
func worth(t *testing.T, c api.Chain, rate int, p api.Stays) [][]*big.Rat {
	t.Helper()
	rows, e := state.Values(c, rate, p)
	return numberRows(t, rows, e)
}

// 16.7 (Chapman, Kolmogorov): Move from a to c is Move from a to b by Move from b to c; rows sum to 1.
func TestChapmanKolmogorov(t *testing.T) {
	look := func(what string, c api.Chain) {
		n := len(c.Steps)
		for _, a := range []int{0, n / 3} {
			for _, b := range []int{a, (a + n) / 2, n} {
				first, second := moved(t, c, a, b), moved(t, c, b, n)
				var product [][]*big.Rat
				for i := range c.States {
					row := nothings(c.States)
					for j := range row {
						for k := range c.States {
							row[j] = plus(row[j], times(first[i][k], second[k][j]))
						}
					}
					product = append(product, row)
					want(t, "the sum of a row of "+what, sumOf(row).RatString(), "1")
				}
				want(t, fmt.Sprint("Move from ", a, " over ", b, " of ", what), wantedRows(moved(t, c, a, n)), wantedRows(product))
			}
		}
	}
	eachChain(look)
	eachLongChain(look)
}

// 16.7: Occupy sums to the number of times; over one time it is Chance.
func TestOccupySums(t *testing.T) {
	look := func(what string, c api.Chain) {
		eachTimes(c, func(from, to int) {
			l, e := state.Occupy(c, 0, from, to)
			want(t, fmt.Sprint("the sum of Occupy from ", from, " to ", to, " of ", what), sumOf(numbers(t, l, e)).RatString(), fmt.Sprint(to-from))
			if to == from+1 {
				want(t, "Occupy of one time of "+what, tellRatios(l, e), tellRatios(state.Chance(c, 0, from)))
			}
		})
	}
	eachChain(look)
	eachLongChain(look)
}

// 16.2: what First tells sums to what is there at the end, if nobody leaves the target.
func TestFirstSums(t *testing.T) {
	for _, n := range []int{1, 2, 7, 60} {
		c := sample(n)
		for i := range 3 {
			l, e := state.First(c, i, 2)
			m, f := state.Chance(c, i, n)
			want(t, fmt.Sprint("First from ", i), sumOf(numbers(t, l, e)).String(), numbers(t, m, f)[2].String())
		}
	}
}

// forwards is the sum of all payments, each times v to its time and the chance that it is paid, begun in a state.
func forwards(t *testing.T, c api.Chain, rate int, p api.Stays, i int) *big.Rat {
	t.Helper()
	sum, v := new(big.Rat), rat(1, 1)
	for y := range c.Steps {
		l, e := state.Chance(c, i, y)
		behind := times(v, rat(unit, int64(unit+rate)))
		for from, there := range numbers(t, l, e) {
			sum = plus(sum, times(v, times(there, rat(int64(p.Stay[y][from]), 1))))
			for to, amount := range p.Move[y][from] {
				chance := times(there, rat(int64(c.Steps[y][from][to]), unit))
				sum = plus(sum, times(behind, times(chance, rat(int64(amount), 1))))
			}
		}
		v = behind
	}
	return sum
}

// 16.8 (forwards is backwards): what is worth at the time 0 is the sum of all payments by their chances.
func TestForwardsIsBackwards(t *testing.T) {
	eachStays(func(what string, c api.Chain, rate int, p api.Stays) {
		if len(c.Steps) > 20 {
			return
		}
		values := worth(t, c, rate, p)
		for i := range c.States {
			want(t, fmt.Sprint("from ", i, " forwards by ", rate, " of ", what), values[0][i].String(), forwards(t, c, rate, p, i).String())
		}
	})
	c := sample(longest)
	p := anyStays(random(168), c)
	want(t, "all years forwards", worth(t, c, 250000, p)[0][1].String(), forwards(t, c, 250000, p, 1).String())
}

// 16.8: what is worth at a time is what is worth at once of the chain and the payments that are left.
func TestValuesLater(t *testing.T) {
	eachStays(func(what string, c api.Chain, rate int, p api.Stays) {
		for y := 1; y < len(c.Steps); y += 1 + len(c.Steps)/3 {
			left := api.Chain{States: c.States, Steps: c.Steps[y:]}
			want(t, fmt.Sprint("from ", y, " on of ", what), wantedRows(worth(t, left, rate, api.Stays{Stay: p.Stay[y:], Move: p.Move[y:]})), wantedRows(worth(t, c, rate, p)[y:]))
		}
	})
}

// 16.8: two lists of payments are worth together what both are.
func TestValuesOfBoth(t *testing.T) {
	r := random(1688)
	small := func(c api.Chain) api.Stays {
		return staysOf(c, func(int, int) int { return r.Intn(2001) - 1000 }, func(int, int, int) int { return r.Intn(2*api.MaxMoney/3) - api.MaxMoney/3 })
	}
	look := func(what string, c api.Chain) {
		p, q := small(c), small(c)
		both := staysOf(c, func(y, i int) int { return p.Stay[y][i] + q.Stay[y][i] }, func(y, i, j int) int { return p.Move[y][i][j] + q.Move[y][i][j] })
		first, second := worth(t, c, 70000, p), worth(t, c, 70000, q)
		var sums [][]*big.Rat
		for y, row := range first {
			var l []*big.Rat
			for i, x := range row {
				l = append(l, plus(x, second[y][i]))
			}
			sums = append(sums, l)
		}
		want(t, "both of "+what, wantedRows(worth(t, c, 70000, both)), wantedRows(sums))
	}
	eachChain(look)
	eachLongChain(look)
}

// grouped is a row's sums by groups.
func grouped(row []*big.Rat, groups []int, count int) []*big.Rat {
	sums := nothings(count)
	for j, x := range row {
		sums[groups[j]] = plus(sums[groups[j]], x)
	}
	return sums
}

// 16.9 (Kemeny, Snell): the chances to come into groups are those of the states put together, from any time to any other one.
func TestKemenySnell(t *testing.T) {
	eachLump(func(what string, _, c api.Chain, groups []int) {
		together, e := state.Lump(c, groups)
		if e != api.OK {
			t.Fatal(e)
		}
		eachTimes(c, func(from, to int) {
			if to-from > 10 && to < len(c.Steps) {
				return
			}
			rows := moved(t, together, from, to)
			for i, row := range moved(t, c, from, to) {
				want(t, fmt.Sprint("Move from ", from, " to ", to, " by groups of ", what), wantedAll(grouped(row, groups, together.States)), wantedAll(rows[groups[i]]))
			}
		})
	})
}

// 16.10 (W2): what payments are worth is in Spans, and what Floats tell is.
func TestSpansHold(t *testing.T) {
	eachStays(func(what string, c api.Chain, rate int, p api.Stays) {
		values, e := state.Values(c, rate, p)
		floats, f := state.Floats(c, rate, p)
		spans, g := state.Spans(c, rate, p)
		if e != api.OK || f != api.OK || g != api.OK || len(values) != len(c.Steps)+1 || len(floats) != len(values) || len(spans) != len(values) {
			t.Fatal(what, e, f, g, len(values), len(floats), len(spans))
		}
		for at, l := range spans {
			for i, s := range l {
				x, _ := float.Exact(floats[at][i])
				for _, r := range []api.Ratio{values[at][i], x} {
					if in, e := span.Has(s, r); !in || e != api.OK {
						t.Error("at", at, "in", i, s, "has not", short(r.Num), short(r.Den), "of", what)
					}
				}
			}
		}
	})
}

// 16.10: with Level as its premium what is paid and what is promised are worth the same.
func TestLevelPays(t *testing.T) {
	eachStays(func(what string, c api.Chain, rate int, p api.Stays) {
		promised := worth(t, c, rate, p)
		for _, i := range []int{0, c.States - 1} {
			for _, years := range yearsOf(c) {
				r, e := state.Level(c, rate, p, i, years)
				paid := times(number(t, r, e), worth(t, c, rate, ones(c, i, years))[0][i])
				want(t, fmt.Sprint("paid in ", i, " for ", years, " years by ", rate, " of ", what), paid.String(), promised[0][i].String())
			}
		}
	})
}

// 16.10: OfTable's chances to live are table.Survive's.
func TestLivesSurvive(t *testing.T) {
	eachLife(func(what string, a api.Table, l api.Life) {
		c, e := state.OfTable(a, l)
		if e != api.OK {
			t.Fatal(e)
		}
		for _, n := range timesOf(c) {
			chances, e := state.Chance(c, 0, n)
			alive := numbers(t, chances, e)[0]
			r, e := table.Survive(a, l, n)
			want(t, fmt.Sprint("alive in ", n, " years, ", what), alive.String(), number(t, r, e).String())
		}
	})
}
