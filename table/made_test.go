package table_test

import (
	"fmt"
	"math/big"
	"testing"

	"tontine/api"
	"tontine/table"
)

// each is t, in which each rate, also those of Select, was made another one.
func each(t api.Table, other func(d, k, rate int) int) api.Table {
	c := copied(t)
	for k, q := range c.Rates {
		c.Rates[k] = other(-1, k, q)
	}
	for d, l := range c.Select {
		for k, q := range l {
			l[k] = other(d, k, q)
		}
	}
	return c
}

// improved is t improved, by the words of 9.6.
func improved(t api.Table, yearly, years int) api.Table {
	left := whole(1)
	for range years {
		left.Mul(left, part(unit-yearly))
	}
	return each(t, func(_, _, rate int) int {
		if rate == unit {
			return unit
		}
		return halfEven(times(whole(rate), left))
	})
}

// 9.6: Improve, by its words.
func TestImprove(t *testing.T) {
	r := random(96)
	for _, a := range tables() {
		for _, yearly := range []int{0, 1, 100000, 5000000, unit - 1, unit, r.Intn(unit), r.Intn(unit / 50)} {
			for _, years := range []int{0, 1, 2, longest, r.Intn(longest)} {
				what := fmt.Sprint("Improve ", yearly, " ", years)
				want(t, what, tellTable(table.Improve(a, yearly, years)), tellTable(improved(a, yearly, years), api.OK))
			}
		}
	}
}

// 9.6: by all of it nothing is left but the last rates; over no years all stays, even so.
func TestImproveByUnit(t *testing.T) {
	nothing := "t 60 [0 0 0 10000000] [[0 0 0 10000000]]"
	want(t, "Improve by Unit", tellTable(table.Improve(chosen(), unit, 1)), nothing)
	want(t, "Improve by Unit", tellTable(table.Improve(chosen(), unit, longest)), nothing)
	want(t, "Improve over no years", tellTable(table.Improve(chosen(), unit, 0)), tellTable(chosen(), api.OK))
	want(t, "Improve by 0", tellTable(table.Improve(chosen(), 0, longest)), tellTable(chosen(), api.OK))
}

// 9.6: rates in the midst of two go to the even one; those next to it to the nearer one.
func TestImproveInTheMidst(t *testing.T) {
	for _, c := range []struct {
		yearly, years int
		rates, want   []int
	}{
		{unit / 2, 1, []int{0, 1, 2, 3, 4, 5, 7, unit - 1}, []int{0, 0, 1, 2, 2, 2, 4, unit / 2}},
		{unit / 2, 2, []int{1, 2, 3, 5, 6, 7, 10, 14}, []int{0, 0, 1, 1, 2, 2, 2, 4}},
		{unit / 2, 23, []int{1<<22 - 1, 1 << 22, 1<<22 + 1}, []int{0, 0, 1}},
		{unit / 2, 22, []int{1 << 21, 1<<21 + 1, 3<<21 - 1, 3 << 21, 3<<21 + 1}, []int{0, 1, 1, 2, 2}},
		{2500000, 1, []int{2, 6, 10, 14}, []int{2, 4, 8, 10}},
		{9000000, 1, []int{5, 15, 25, 26, 34, 35}, []int{0, 2, 2, 3, 3, 4}},
		{9000000, 7, []int{4999999, 5000000, 5000001, unit - 1}, []int{0, 0, 1, 1}},
	} {
		of := func(rates []int) api.Table {
			l := append(rates, unit)
			return api.Table{Name: "t", Rates: l, Select: [][]int{l}}
		}
		want(t, fmt.Sprint("Improve ", c.yearly, " ", c.years), tellTable(table.Improve(of(c.rates), c.yearly, c.years)), tellTable(of(c.want), api.OK))
	}
}

// 9.6: yearly or years out of its range.
func TestImproveOutOfRange(t *testing.T) {
	for _, yearly := range noUnits {
		for _, years := range append(noYears, 0, 1, longest) {
			want(t, "Improve", tellTable(table.Improve(chosen(), yearly, years)), refused(api.ErrRange))
		}
	}
	for _, years := range noYears {
		for _, yearly := range []int{0, 1, unit} {
			want(t, "Improve", tellTable(table.Improve(chosen(), yearly, years)), refused(api.ErrRange))
		}
	}
}

// beside is a table that a right one can be blended with: of as many rates everywhere.
func beside(a api.Table, rate func(d, k int) int) api.Table {
	b := tableOf(a.First, len(a.Rates), len(a.Select), rate)
	b.Name = "other"
	return b
}

// 9.6: Blend, by its words; 9.12: its rates lie between both.
func TestBlend(t *testing.T) {
	r := random(960)
	for _, a := range tables() {
		b := beside(a, func(int, int) int { return anyRate(r) })
		for _, weight := range []int{0, 1, 2500000, unit / 2, unit - 1, unit, r.Intn(unit)} {
			wanted := each(a, func(d, k, p int) int {
				q := b.Rates[k]
				if d >= 0 {
					q = b.Select[d][k]
				}
				mean := halfEven(plus(times(part(weight), whole(p)), times(minus(whole(1), part(weight)), whole(q))))
				if p != unit || q != unit {
					mean = min(mean, unit-1)
				}
				if mean < min(p, q) || mean > max(p, q) {
					t.Error("the mean of", p, "and", q, "is", mean)
				}
				return mean
			})
			want(t, fmt.Sprint("Blend ", weight), tellTable(table.Blend(a, b, weight)), tellTable(wanted, api.OK))
		}
	}
}

// 9.6: which table the weight is of, whose name stays, and means in the midst of two.
func TestBlendEnds(t *testing.T) {
	of := func(name string, rates ...int) api.Table {
		l := append(rates, unit)
		return api.Table{Name: name, First: 5, Rates: l, Select: [][]int{l}}
	}
	a, b := of("a", 0, 1, 2, 3, 0, unit-1, unit-1), of("b", 1, 2, 3, 4, 4, unit-1, unit-2)
	for weight, wanted := range map[int]api.Table{
		0:        of("a", 1, 2, 3, 4, 4, unit-1, unit-2),
		unit:     of("a", 0, 1, 2, 3, 0, unit-1, unit-1),
		unit / 2: of("a", 0, 2, 2, 4, 2, unit-1, unit-2),
		7500000:  of("a", 0, 1, 2, 3, 1, unit-1, unit-1),
		1250000:  of("a", 1, 2, 3, 4, 4, unit-1, unit-2),
		6250000:  of("a", 0, 1, 2, 3, 2, unit-1, unit-1),
		8750000:  of("a", 0, 1, 2, 3, 0, unit-1, unit-1),
		3750000:  of("a", 1, 2, 3, 4, 2, unit-1, unit-2),
	} {
		want(t, fmt.Sprint("Blend ", weight), tellTable(table.Blend(a, b, weight)), tellTable(wanted, api.OK))
	}
	want(t, "Blend of b and a", tellTable(table.Blend(b, a, 2500000)), tellTable(of("b", 0, 1, 2, 3, 1, unit-1, unit-1), api.OK))
}

// 9.6: what cannot be blended, and which error comes first. (Only such tables have just one rate that is Unit at some place.)
func TestBlendRefuses(t *testing.T) {
	a := tableOf(20, 12, 2, func(d, k int) int { return 5 })
	older := changed(a, func(t *api.Table) { t.First++ })
	shorter := tableOf(20, 11, 2, func(d, k int) int { return 5 })
	later := tableOf(21, 11, 2, func(d, k int) int { return 5 })
	fewer, more, none := tableOf(20, 12, 1, func(d, k int) int { return 5 }), tableOf(20, 12, 3, func(d, k int) int { return 5 }), tableOf(20, 12, 0, func(d, k int) int { return 5 })
	ended := changed(a, func(t *api.Table) { t.Rates[7] = unit })
	selected := changed(a, func(t *api.Table) { t.Select[1][7] = unit })
	both := changed(fewer, func(t *api.Table) { t.First++ })
	for _, c := range []struct {
		b api.Table
		e api.Errno
	}{{older, api.ErrAge}, {shorter, api.ErrAge}, {later, api.ErrAge}, {both, api.ErrAge}, {fewer, api.ErrRates}, {more, api.ErrRates}, {none, api.ErrRates}, {ended, api.ErrRates}, {selected, api.ErrRates}} {
		for _, weight := range []int{0, 1, unit / 2, unit} {
			want(t, "Blend", tellTable(table.Blend(a, c.b, weight)), refused(c.e))
			want(t, "Blend, the other way round", tellTable(table.Blend(c.b, a, weight)), refused(c.e))
		}
		for _, weight := range noUnits {
			e := api.ErrRange
			if table.Check(c.b) != api.OK {
				e = api.ErrRates
			}
			want(t, "Blend with no weight", tellTable(table.Blend(a, c.b, weight)), refused(e))
		}
	}
	for _, weight := range noUnits {
		want(t, "Blend", tellTable(table.Blend(a, a, weight)), refused(api.ErrRange))
		want(t, "Blend", tellTable(table.Blend(a, broken(), weight)), refused(api.ErrForm))
		want(t, "Blend", tellTable(table.Blend(ended, broken(), weight)), refused(api.ErrRates))
		want(t, "Blend", tellTable(table.Blend(broken(), ended, weight)), refused(api.ErrForm))
	}
}

// 9.12: improved rates are not greater; improved further by nothing they stay; a blend of a table and itself is it. What is made is right.
func TestMadeTables(t *testing.T) {
	r := random(912)
	for _, a := range tables() {
		yearly, years, more := r.Intn(unit+1), r.Intn(longest+1), r.Intn(longest+1)
		b, e := table.Improve(a, yearly, years)
		if e != api.OK || table.Check(b) != api.OK {
			t.Fatal(e, b)
		}
		each(a, func(d, k, rate int) int {
			now := b.Rates[k]
			if d >= 0 {
				now = b.Select[d][k]
			}
			if now > rate {
				t.Errorf("%d improved is %d", rate, now)
			}
			return rate
		})
		want(t, "improved by nothing", tellTable(table.Improve(b, 0, more)), tellTable(b, api.OK))
		want(t, "improved over no years", tellTable(table.Improve(b, yearly, 0)), tellTable(b, api.OK))
		weight := r.Intn(unit + 1)
		want(t, "Blend of a table and itself", tellTable(table.Blend(a, a, weight)), tellTable(a, api.OK))
		m, _ := table.Blend(a, b, weight)
		want(t, "Check of a blend", told("OK", table.Check(m), true), "OK")
	}
}

// What the tests round by is right.
func TestHalfEven(t *testing.T) {
	for n, wanted := range []int{0, 0, 0, 1, 1, 1, 2, 2, 2, 2, 2, 3} { // quarters
		if got := halfEven(big.NewRat(int64(n), 4)); got != wanted {
			t.Errorf("%d/4 is rounded to %d", n, got)
		}
	}
}
