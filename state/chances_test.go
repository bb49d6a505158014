package state_test

import (
	"fmt"
	"math/big"
	"testing"

	"tontine/api"
	"tontine/state"
)

// ways calls do with every way from a state at one time, on to another time: with the states that it comes to, and its chance.
func ways(c api.Chain, state, from, to int, do func(way []int, chance *big.Rat)) {
	var goOn func(way []int, chance *big.Rat)
	goOn = func(way []int, chance *big.Rat) {
		t := from + len(way) - 1
		if t == to {
			do(way, chance)
			return
		}
		for j, step := range c.Steps[t][way[len(way)-1]] {
			if step > 0 {
				goOn(append(way[:len(way):len(way)], j), times(chance, rat(int64(step), unit)))
			}
		}
	}
	goOn([]int{state}, rat(1, 1))
}

// eachSmallChain goes over chains of so few ways that all can be gone.
func eachSmallChain(do look) {
	eachChain(func(what string, c api.Chain) {
		number := 1
		for range c.Steps {
			number *= c.States
		}
		if number <= 4100 {
			do(what, c)
		}
	})
}

func nothings(n int) []*big.Rat {
	l := make([]*big.Rat, n)
	for i := range l {
		l[i] = new(big.Rat)
	}
	return l
}

// 16.1: Move is the sum over all ways through the states between; 1 and 0 from a time to itself.
func TestMoveIsAllWays(t *testing.T) {
	eachSmallChain(func(what string, c api.Chain) {
		eachTimes(c, func(from, to int) {
			var rows [][]*big.Rat
			for i := range c.States {
				row := nothings(c.States)
				ways(c, i, from, to, func(way []int, chance *big.Rat) {
					end := way[len(way)-1]
					row[end] = plus(row[end], chance)
				})
				rows = append(rows, row)
			}
			want(t, fmt.Sprint("Move from ", from, " to ", to, " of ", what), tellRatioRows(state.Move(c, from, to)), wantedRows(rows))
		})
	})
}

// 16.1 and 16.2: Move and Chance of chains of any length, multiplied out; Chance is a row of Move from the time 0.
func TestMoveAndChance(t *testing.T) {
	look := func(what string, c api.Chain) {
		eachTimes(c, func(from, to int) {
			rows := moveOf(c, from, to)
			want(t, fmt.Sprint("Move from ", from, " to ", to, " of ", what), tellRatioRows(state.Move(c, from, to)), wantedRows(rows))
			for i := 0; from == 0 && i < c.States; i++ {
				want(t, fmt.Sprint("Chance of ", i, " at ", to, " of ", what), tellRatios(state.Chance(c, i, to)), wantedAll(rows[i]))
			}
		})
	}
	eachChain(look)
	eachLongChain(look)
}

// 16.1: one who does not move yet is where he is.
func TestMoveNowhere(t *testing.T) {
	for _, at := range []int{0, 1, 2} {
		want(t, "Move", tellRatioRows(state.Move(sample(2), at, at)), "1/1 0/1 0/1; 0/1 1/1 0/1; 0/1 0/1 1/1")
	}
	want(t, "Chance", tellRatios(state.Chance(sample(2), 1, 0)), "0/1 1/1 0/1")
	want(t, "Occupy", tellRatios(state.Occupy(sample(2), 1, 2, 2)), "0/1 0/1 0/1")
	want(t, "Occupy at once", tellRatios(state.Occupy(sample(2), 1, 0, 0)), "0/1 0/1 0/1")
	want(t, "Occupy, the first time", tellRatios(state.Occupy(sample(2), 1, 0, 1)), "0/1 1/1 0/1")
	want(t, "Occupy, the second time", tellRatios(state.Occupy(sample(2), 1, 1, 2)), "1/2 3/10 1/5")
}

// 16.2: Occupy counts the times from one to ahead of another one, on every way from the time 0.
func TestOccupyIsAllWays(t *testing.T) {
	eachSmallChain(func(what string, c api.Chain) {
		for i := range c.States {
			eachTimes(c, func(from, to int) {
				counts := nothings(c.States)
				ways(c, i, 0, to, func(way []int, chance *big.Rat) {
					for _, j := range way[from:to] {
						counts[j] = plus(counts[j], chance)
					}
				})
				want(t, fmt.Sprint("Occupy from ", from, " to ", to, " by ", i, " of ", what), tellRatios(state.Occupy(c, i, from, to)), wantedAll(counts))
			})
		}
	})
}

// 16.2: Occupy of long chains: the sum of the chances.
func TestOccupyOfManyYears(t *testing.T) {
	eachLongChain(func(what string, c api.Chain) {
		last := c.States - 1
		chances := rowsOf(c, last, 0, len(c.Steps)-1)
		eachTimes(c, func(from, to int) {
			sums := nothings(c.States)
			for _, l := range chances[from:to] {
				for j, x := range l {
					sums[j] = plus(sums[j], x)
				}
			}
			want(t, fmt.Sprint("Occupy from ", from, " to ", to, " of ", what), tellRatios(state.Occupy(c, last, from, to)), wantedAll(sums))
		})
	})
}

// 16.2: First is the chance of all ways that come to the target at a time, and not ahead; who begins there is there at the time 0, and for the first time never again.
func TestFirstIsAllWays(t *testing.T) {
	eachSmallChain(func(what string, c api.Chain) {
		for i := range c.States {
			for target := range c.States {
				chances := nothings(len(c.Steps) + 1)
				ways(c, i, 0, len(c.Steps), func(way []int, chance *big.Rat) {
					for at, j := range way {
						if j == target {
							chances[at] = plus(chances[at], chance)
							return
						}
					}
				})
				want(t, fmt.Sprint("First from ", i, " to ", target, " of ", what), tellRatios(state.First(c, i, target)), wantedAll(chances))
			}
		}
	})
}

// 16.2: First of long chains: what the chance to be in the target grows by, if nobody leaves it any more.
func TestFirstOfManyYears(t *testing.T) {
	eachLongChain(func(what string, c api.Chain) {
		for _, target := range []int{0, c.States - 1} {
			caught := chainOf(c.States, len(c.Steps), func(y, i int) []int {
				if i == target {
					return only(c.States, target, unit)
				}
				return c.Steps[y][i]
			})
			start := c.States / 2
			var chances []*big.Rat
			had := new(big.Rat)
			for _, row := range rowsOf(caught, start, 0, len(c.Steps)) {
				chances, had = append(chances, minus(row[target], had)), row[target]
			}
			want(t, fmt.Sprint("First from ", start, " to ", target, " of ", what), tellRatios(state.First(c, start, target)), wantedAll(chances))
		}
	})
}

// 16.1 and 16.2: states that there are not, and times out of their range; one behind the other, and both one.
func TestNoStatesAndTimes(t *testing.T) {
	for _, n := range []int{1, 2, 5} {
		c := sample(n)
		for _, i := range append([]int{-1, 3, 4}, far...) {
			want(t, fmt.Sprint("Chance of ", i), tellRatios(state.Chance(c, i, 0)), refused(api.ErrState))
			want(t, fmt.Sprint("Occupy of ", i), tellRatios(state.Occupy(c, i, 0, 0)), refused(api.ErrState))
			want(t, fmt.Sprint("First of ", i), tellRatios(state.First(c, i, 0)), refused(api.ErrState))
			want(t, fmt.Sprint("First to ", i), tellRatios(state.First(c, 0, i)), refused(api.ErrState))
			want(t, fmt.Sprint("First from and to ", i), tellRatios(state.First(c, i, i)), refused(api.ErrState))
		}
		some := append([]int{-1, 0, 1, 2, n - 1, n, n + 1}, far...)
		for _, from := range some {
			want(t, fmt.Sprint("Chance at ", from), toldWell(tellRatios(state.Chance(c, 2, from))), wellIf(from >= 0 && from <= n))
			for _, to := range some {
				right := from >= 0 && from <= n && to >= from && to <= n
				what := fmt.Sprint(" from ", from, " to ", to, " of ", n, " years")
				want(t, "Move"+what, toldWell(tellRatioRows(state.Move(c, from, to))), wellIf(right))
				want(t, "Occupy"+what, toldWell(tellRatios(state.Occupy(c, 2, from, to))), wellIf(right))
			}
		}
	}
}

// toldWell is what a call told that is an error, else that it is none.
func toldWell(s string) string {
	if s == refused(api.ErrRange) || s == "" {
		return s
	}
	return "numbers"
}

func wellIf(right bool) string {
	if right {
		return "numbers"
	}
	return refused(api.ErrRange)
}
