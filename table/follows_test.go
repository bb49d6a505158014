package table_test

import (
	"fmt"
	"math/big"
	"testing"

	"tontine/api"
	"tontine/table"
)

// exactly is an exact number that a call answered.
func exactly(t *testing.T) func(r api.Ratio, e api.Errno) *big.Rat {
	return func(r api.Ratio, e api.Errno) *big.Rat {
		t.Helper()
		if e != api.OK {
			t.Fatal(e)
		}
		return toBig(t, r)
	}
}

// 9.8: S falls; the chances to die sum to 1.
func TestSurvivalFalls(t *testing.T) {
	num := exactly(t)
	for _, a := range tables() {
		for i, l := range livesOf(a) {
			if i%5 != 0 {
				continue
			}
			s, sum := num(table.Survive(a, l, 0)), new(big.Rat)
			want(t, "S(0)", s.String(), "1/1")
			for n := range longest + 1 {
				sum.Add(sum, num(table.Die(a, l, n)))
				next := num(table.Survive(a, l, n))
				if next.Cmp(s) > 0 {
					t.Errorf("%v: S(%d) is above the one ahead", l, n)
				}
				s = next
			}
			want(t, fmt.Sprint("all chances to die of ", l), sum.String(), "1/1")
		}
	}
}

// 9.8: S(m + n) is S(m) times S(n) of the life m years later.
func TestSurvivalGoesOn(t *testing.T) {
	num := exactly(t)
	for _, a := range tables() {
		for _, l := range livesOf(a) {
			left := a.First + len(a.Rates) - 1 - l.Entry - l.Years // in so many years it is at the last age
			for _, m := range []int{0, 1, left / 2, left} {
				if m > left {
					continue
				}
				later := api.Life{Entry: l.Entry, Years: l.Years + m}
				for _, n := range []int{0, 1, left / 3, left - m, left - m + 1} {
					if n < 0 || m+n > longest {
						continue
					}
					product := times(num(table.Survive(a, l, m)), num(table.Survive(a, later, n)))
					want(t, fmt.Sprint("S of ", l, " ", m, " ", n), num(table.Survive(a, l, m+n)).String(), product.String())
				}
			}
		}
	}
}

// 9.9: Expect of the whole is that of some years, and of those behind them.
func TestExpectGoesOn(t *testing.T) {
	num, r := exactly(t), random(99)
	for _, a := range tables() {
		all := livesOf(a)
		for range 6 {
			l, m := all[r.Intn(len(all))], r.Intn(longest+1)
			n := r.Intn(longest + 1 - m)
			parts := plus(num(table.Expect(a, l, 0, m)), num(table.Expect(a, l, m, n)))
			want(t, fmt.Sprint("Expect of ", l, " ", m, " ", n), num(table.Expect(a, l, 0, m+n)).String(), parts.String())
		}
	}
}

// 9.9: living a greater part of a year is not likelier; a whole year is S; DieLast is not likelier than DieEvenly.
func TestWithinFalls(t *testing.T) {
	num := exactly(t)
	eachLife(func(what string, a api.Table, l api.Life) {
		for _, n := range []int{0, 1, len(a.Rates) - 1} {
			last := map[int]*big.Rat{}
			for _, u := range []string{"0", "1/1000000000000", "1/4", "1/3", "1/2", "9/10", "999999999999/1000000000000", "1"} {
				for _, how := range hows {
					p := num(table.Within(a, l, n, of(u), how))
					if last[how] != nil && p.Cmp(last[how]) > 0 {
						t.Errorf("%s in %d: living %s by %d is likelier than living less", what, n, u, how)
					}
					last[how] = p
				}
				if last[api.DieLast].Cmp(last[api.DieEvenly]) > 0 {
					t.Errorf("%s in %d: living %s is likelier by DieLast", what, n, u)
				}
			}
			for _, how := range hows {
				want(t, "no part of a year", num(table.Within(a, l, n, of("0"), how)).String(), num(table.Survive(a, l, n)).String())
				if n < longest {
					want(t, "a whole year", last[how].String(), num(table.Survive(a, l, n+1)).String())
				}
			}
		}
	})
}
