package table_test

import (
	"fmt"
	"math"
	"strings"
	"testing"

	"tontine/api"
	"tontine/table"
)

// lifeCalls are all calls that are given a table and a life; if wrong, with all else wrong too.
func lifeCalls(wrong bool) map[string]func(t api.Table, l api.Life) string {
	n, u, how, radix := 0, of("1/2"), api.DieEvenly, 1.0
	if wrong {
		n, u, how, radix = -1, of("2/4"), 0, math.NaN()
	}
	return map[string]func(t api.Table, l api.Life) string{
		"Rate":     func(t api.Table, l api.Life) string { return tellInt(table.Rate(t, l, n)) },
		"Survive":  func(t api.Table, l api.Life) string { return tell(table.Survive(t, l, n)) },
		"Die":      func(t api.Table, l api.Life) string { return tell(table.Die(t, l, n)) },
		"Within":   func(t api.Table, l api.Life) string { return tell(table.Within(t, l, n, u, how)) },
		"Expect":   func(t api.Table, l api.Life) string { return tell(table.Expect(t, l, n, n)) },
		"Probable": func(t api.Table, l api.Life) string { return tellInt(table.Probable(t, l)) },
		"Lives":    func(t api.Table, l api.Life) string { return tellFloats(table.Lives(t, l, radix)) },
		"Spans":    func(t api.Table, l api.Life) string { return tellSpans(table.Spans(t, l)) },
	}
}

// tableCalls are all other calls that are given a table; if wrong, with all else wrong too.
func tableCalls(wrong bool) map[string]func(t api.Table) string {
	n, other := 0, ages()
	if wrong {
		n, other = -1, broken()
	}
	return map[string]func(t api.Table) string{
		"Check":   func(t api.Table) string { return told("OK", table.Check(t), true) },
		"Basis":   func(t api.Table) string { return told("OK", table.Basis(api.Basis{Table: t, Rate: n}), true) },
		"Last":    func(t api.Table) string { return tellInt(table.Last(t)) },
		"Improve": func(t api.Table) string { return tellTable(table.Improve(t, n, n)) },
		"Blend":   func(t api.Table) string { return tellTable(table.Blend(t, other, n)) },
		"Text":    func(t api.Table) string { return tellText(table.Text(t)) },

		"Blend behind another": func(t api.Table) string { return tellTable(table.Blend(ages(), t, n)) },
	}
}

// wantRefused wants each call to answer the error of a table, ahead of all else that may be wrong.
func wantRefused(t *testing.T, what string, a api.Table, e api.Errno) {
	t.Helper()
	for _, wrong := range []bool{false, true} {
		for name, call := range tableCalls(wrong) {
			want(t, name+" of "+what, call(a), refused(e))
		}
		for name, call := range lifeCalls(wrong) {
			want(t, name+" of "+what, call(a, api.Life{Entry: 60}), refused(e))
			want(t, name+" of "+what, call(a, api.Life{Entry: -1, Years: -1}), refused(e))
		}
	}
}

// 9.1: tables that are right.
func TestRightTables(t *testing.T) {
	for _, a := range tables() {
		what := short(fmt.Sprint(a))
		want(t, "Check "+what, told("OK", table.Check(a), true), "OK")
		want(t, "Last "+what, tellInt(table.Last(a)), fmt.Sprint(a.First+len(a.Rates)-1))
		for _, rate := range []int{0, 1, 250000, api.MaxRate - 1, api.MaxRate} {
			want(t, "Basis "+what, told("OK", table.Basis(api.Basis{Table: a, Rate: rate}), true), "OK")
		}
	}
}

// 9.1: names, and what is none.
func TestNames(t *testing.T) {
	named := func(name string) api.Table { return changed(chosen(), func(t *api.Table) { t.Name = name }) }
	for _, name := range []string{"a", "z", "a0", "z9_", "men_2024", "a_", strings.Repeat("a", api.MaxName), "m" + strings.Repeat("_", api.MaxName-1)} {
		want(t, name, told("OK", table.Check(named(name)), true), "OK")
	}
	for _, name := range []string{"", "A", "0", "_", "9a", "_a", "aB", "a b", "a ", " a", "a-b", "a.b", "a\n", "a\x00", "ä", "aä", "\xff", "a`", "a{", "a/", "a:", "`", "{", strings.Repeat("a", api.MaxName+1), strings.Repeat("a", api.MaxText+1)} {
		wantRefused(t, "the name "+short(name), named(name), api.ErrForm)
	}
	for b := range 256 {
		c := string([]byte{byte(b)})
		letter := b >= 'a' && b <= 'z'
		other := letter || b >= '0' && b <= '9' || b == '_'
		for name, ok := range map[string]bool{c: letter, "a" + c: other, "a" + c + "b": other} {
			if got := table.Check(named(name)) == api.OK; got != ok {
				t.Errorf("%q is a name: %v", name, got)
			}
		}
	}
	wantRefused(t, "a wrong name, and all else wrong", broken(), api.ErrForm)
}

// 9.1: First, Last, and no Rates.
func TestAges(t *testing.T) {
	for _, first := range []int{-1, -60, oldest + 1, 2 * oldest, math.MinInt, math.MaxInt} {
		wantRefused(t, "First out of its range", changed(chosen(), func(t *api.Table) { t.First = first }), api.ErrAge)
		wantRefused(t, "First and rates out of their ranges", changed(chosen(), func(t *api.Table) { t.First, t.Rates[0], t.Select = first, -1, nil }), api.ErrAge)
	}
	for _, first := range []int{0, 60, oldest} {
		wantRefused(t, "no rates", api.Table{Name: "t", First: first}, api.ErrAge)
		wantRefused(t, "no rates", api.Table{Name: "t", First: first, Rates: []int{}, Select: [][]int{{unit}}}, api.ErrAge)
		wantRefused(t, "a rate too many", tableOf(first, oldest+2-first, 0, func(int, int) int { return 5 }), api.ErrAge)
	}
	wantRefused(t, "far too many rates", tableOf(0, api.MaxItems+1, 0, func(int, int) int { return -5 }), api.ErrAge)
	wantRefused(t, "far too many rates", tableOf(oldest, 3*api.MaxItems, 2, func(int, int) int { return 5 }), api.ErrAge)
}

// 9.1: Rates out of their range, Unit in the midst, no Unit at the end.
func TestRates(t *testing.T) {
	full := tableOf(0, oldest+1, 0, func(int, int) int { return 5 })
	for _, rate := range append(noUnits, unit) {
		for _, at := range []int{0, 1, 64, oldest - 1} {
			wantRefused(t, fmt.Sprint("the rate ", rate), changed(full, func(t *api.Table) { t.Rates[at] = rate }), api.ErrRates)
		}
	}
	for _, rate := range append(noUnits, 0, 5, unit-1) {
		wantRefused(t, fmt.Sprint("the last rate ", rate), changed(full, func(t *api.Table) { t.Rates[oldest] = rate }), api.ErrRates)
		wantRefused(t, fmt.Sprint("the only rate ", rate), api.Table{Name: "t", Rates: []int{rate}}, api.ErrRates)
	}
	for _, rate := range []int{0, 1, unit - 1} {
		for _, at := range []int{0, 64, oldest - 1} {
			want(t, "Check", told("OK", table.Check(changed(full, func(t *api.Table) { t.Rates[at] = rate })), true), "OK")
		}
	}
}

// 9.1: Select's rates out of their range, Unit in the midst, no Unit at the end.
func TestRatesOfSelect(t *testing.T) {
	full := tableOf(20, 20, api.MaxSelect, func(int, int) int { return 5 })
	for d := range api.MaxSelect {
		end := len(full.Select[d]) - 1
		for _, at := range []int{0, 5, end - 1} {
			for _, rate := range append(noUnits, unit) {
				wantRefused(t, "a rate of Select", changed(full, func(t *api.Table) { t.Select[d][at] = rate }), api.ErrRates)
			}
			for _, rate := range []int{0, unit - 1} {
				want(t, "Check", told("OK", table.Check(changed(full, func(t *api.Table) { t.Select[d][at] = rate })), true), "OK")
			}
		}
		for _, rate := range append(noUnits, 0, unit-1) {
			wantRefused(t, "a last rate of Select", changed(full, func(t *api.Table) { t.Select[d][end] = rate }), api.ErrRates)
		}
	}
}

// 9.1: how many members Select has, and these.
func TestLengthsOfSelect(t *testing.T) {
	few := func(int, int) int { return 5 }
	wantRefused(t, "a member more than MaxSelect", tableOf(20, 20, api.MaxSelect+1, few), api.ErrRates)
	for _, count := range []int{1, 2, 4, api.MaxSelect - 1} {
		a := tableOf(20, count, count, few)
		want(t, "Check", told("OK", table.Check(a), true), "OK")
		for _, more := range [][]int{nil, {}, {unit}, {5, unit}} {
			wantRefused(t, "a member more than Rates", changed(a, func(t *api.Table) { t.Select = append(t.Select, more) }), api.ErrRates)
		}
	}
	full := tableOf(20, 12, api.MaxSelect, few)
	for d := range api.MaxSelect {
		wantRefused(t, "a list one too long", changed(full, func(t *api.Table) { t.Select[d] = append([]int{5}, t.Select[d]...) }), api.ErrRates)
		wantRefused(t, "a list one too short", changed(full, func(t *api.Table) { t.Select[d] = t.Select[d][1:] }), api.ErrRates)
		wantRefused(t, "an empty list", changed(full, func(t *api.Table) { t.Select[d] = []int{} }), api.ErrRates)
		wantRefused(t, "no list", changed(full, func(t *api.Table) { t.Select[d] = nil }), api.ErrRates)
		wantRefused(t, "a list far too long", changed(full, func(t *api.Table) { t.Select[d] = make([]int, api.MaxItems+1) }), api.ErrRates)
	}
	wantRefused(t, "far too many members", changed(full, func(t *api.Table) { t.Select = make([][]int, api.MaxItems+1) }), api.ErrRates)
}

// 9.1: a basis' rate.
func TestBasis(t *testing.T) {
	for _, rate := range []int{-1, -unit, api.MaxRate + 1, math.MinInt, math.MaxInt} {
		want(t, "Basis", told("OK", table.Basis(api.Basis{Table: ages(), Rate: rate}), true), refused(api.ErrRange))
		want(t, "Basis of no table", told("OK", table.Basis(api.Basis{Table: broken(), Rate: rate}), true), refused(api.ErrForm))
	}
}

// 9.1: a life that is not of the table, ahead of all else that is wrong.
func TestNoLives(t *testing.T) {
	for _, a := range tables() {
		for _, l := range noLives(a) {
			for _, wrong := range []bool{false, true} {
				for name, call := range lifeCalls(wrong) {
					want(t, fmt.Sprint(name, " of ", l), call(a, l), refused(api.ErrAge))
				}
			}
		}
	}
}

// 9.1: lives that are just of the table.
func TestLivesOfTables(t *testing.T) {
	for _, a := range tables() {
		for _, l := range livesOf(a) {
			if got := tellInt(table.Rate(a, l, 0)); got == refused(api.ErrAge) {
				t.Errorf("%v is not of a table of %d rates from %d on", l, len(a.Rates), a.First)
			}
		}
	}
}
