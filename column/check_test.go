package column_test

import (
	"fmt"
	"math"
	"testing"

	"tontine/api"
	"tontine/column"
)

// calls are all calls of the package; if wrong, with all wrong that stands behind the basis and the life.
func calls(wrong bool) map[string]func(b api.Basis, l api.Life) string {
	n, radix, f := 1, 1.0, api.Benefit{Kind: api.BBoth, Wait: 1, Term: 2}
	if wrong {
		n, radix, f = -1, math.NaN(), api.Benefit{Kind: api.BBoth, Wait: -1, Sure: 1}
	}
	return map[string]func(b api.Basis, l api.Life) string{
		"Floats": func(b api.Basis, l api.Life) string { return tellColumns(column.Floats(b, l, radix)) },
		"Spans":  func(b api.Basis, l api.Life) string { return tellSpanColumns(column.Spans(b, l)) },
		"Exact":  func(b api.Basis, l api.Life) string { return tellColumn(column.Exact(b, l, n)) },
		"Value":  func(b api.Basis, l api.Life) string { return tellFloat(column.Value(b, l, f)) },
		"Within": func(b api.Basis, l api.Life) string { return tellSpan(column.Within(b, l, f)) },
	}
}

// wantRefused wants each call to answer the error of a basis, ahead of all else that may be wrong.
func wantRefused(t *testing.T, what string, b api.Basis, e api.Errno) {
	t.Helper()
	for _, wrong := range []bool{false, true} {
		for name, call := range calls(wrong) {
			want(t, name+" of "+what, call(b, api.Life{Entry: 60}), refused(e))
			want(t, name+" of no life and "+what, call(b, api.Life{Entry: -1, Years: -1}), refused(e))
		}
	}
}

// 12.1, 12.2: a table that is not right: chapter 9's error, ahead of all others.
func TestNoTables(t *testing.T) {
	for what, c := range map[string]struct {
		t api.Table
		e api.Errno
	}{
		"no name":              {changed(func(t *api.Table) { t.Name = "" }), api.ErrForm},
		"a wrong name":         {changed(func(t *api.Table) { t.Name = "T" }), api.ErrForm},
		"no first age":         {changed(func(t *api.Table) { t.First = -1 }), api.ErrAge},
		"a last age too great": {changed(func(t *api.Table) { t.First = oldest - 2 }), api.ErrAge},
		"a first age too far":  {changed(func(t *api.Table) { t.First = math.MaxInt }), api.ErrAge},
		"no rates":             {changed(func(t *api.Table) { t.Rates = nil }), api.ErrAge},
		"a rate below 0":       {changed(func(t *api.Table) { t.Rates[1] = -1 }), api.ErrRates},
		"a rate of Unit":       {changed(func(t *api.Table) { t.Rates[1] = unit }), api.ErrRates},
		"no Unit at the end":   {changed(func(t *api.Table) { t.Rates[3] = unit - 1 }), api.ErrRates},
		"a short Select":       {changed(func(t *api.Table) { t.Select[0] = t.Select[0][1:] }), api.ErrRates},
		"a wrong Select":       {changed(func(t *api.Table) { t.Select[0][0] = unit + 1 }), api.ErrRates},
	} {
		for _, rate := range []int{0, 250000, -1, api.MaxRate + 1} {
			wantRefused(t, what, api.Basis{Table: c.t, Rate: rate}, c.e)
		}
	}
	wantRefused(t, "a basis with all wrong", broken(), api.ErrForm)
}

// 12.1, 12.2: a basis whose Rate is out of its range, ahead of a life that is not of its table.
func TestNoBasis(t *testing.T) {
	for _, rate := range []int{-1, -unit, -unit - 1, api.MaxRate + 1, math.MinInt, math.MaxInt} {
		wantRefused(t, fmt.Sprint("the rate ", rate), api.Basis{Table: ages(), Rate: rate}, api.ErrRange)
	}
}

// 12.1, 12.2: a life that is not of the table, ahead of all that stands behind it.
func TestNoLives(t *testing.T) {
	for _, a := range append(tables(), longTables()...) {
		for _, l := range noLives(a) {
			for _, wrong := range []bool{false, true} {
				for name, call := range calls(wrong) {
					want(t, fmt.Sprint(name, " of ", l), call(api.Basis{Table: a, Rate: 5}, l), refused(api.ErrAge))
				}
			}
		}
	}
}

// 12.1, 12.2: what stands behind a right basis and its life, and is wrong.
func TestAllElseWrong(t *testing.T) {
	b, l := sample()
	for name, e := range map[string]api.Errno{"Floats": api.ErrNotFinite, "Exact": api.ErrRange, "Value": api.ErrBenefit, "Within": api.ErrBenefit} {
		want(t, name, calls(true)[name](b, l), refused(e))
	}
}
