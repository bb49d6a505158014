package value_test

import (
	"fmt"
	"math"
	"slices"
	"testing"

	"tontine/api"
	"tontine/value"
)

// calls are all calls that are given a basis; if wrong, with all wrong that stands behind the benefit.
func calls(wrong bool) map[string]func(b api.Basis, l api.Life, f api.Benefit) string {
	most, parts := api.Ratio{Num: "3", Den: "2"}, 2
	if wrong {
		most, parts = api.Ratio{Num: "2", Den: "4"}, 0
	}
	return map[string]func(b api.Basis, l api.Life, f api.Benefit) string{
		"Exact":  func(b api.Basis, l api.Life, f api.Benefit) string { return tellRatio(value.Exact(b, l, f)) },
		"Later":  func(b api.Basis, l api.Life, f api.Benefit) string { return tellRatios(value.Later(b, l, f)) },
		"Spread": func(b api.Basis, l api.Life, f api.Benefit) string { return tellRatio(value.Spread(b, l, f)) },
		"Chance": func(b api.Basis, l api.Life, f api.Benefit) string { return tellRatio(value.Chance(b, l, f, most)) },
		"Float":  func(b api.Basis, l api.Life, f api.Benefit) string { return tellFloat(value.Float(b, l, f)) },
		"Span":   func(b api.Basis, l api.Life, f api.Benefit) string { return tellSpan(value.Span(b, l, f)) },
		"Parts":  func(b api.Basis, l api.Life, f api.Benefit) string { return tellRatio(value.Parts(b, l, f, parts)) },
	}
}

var due = api.Benefit{Kind: api.BDue, Wait: 1, Term: 2}

// wantRefused wants each call to answer an error, whatever else is wrong behind it.
func wantRefused(t *testing.T, what string, b api.Basis, l api.Life, f api.Benefit, e api.Errno) {
	t.Helper()
	for _, wrong := range []bool{false, true} {
		for name, call := range calls(wrong) {
			want(t, fmt.Sprint(name, " of ", what, " and ", f), call(b, l, f), refused(e))
		}
	}
}

// 13.1: a benefit is right, or ErrBenefit: each kind, with each part at the ends of its range.
func TestCheck(t *testing.T) {
	for _, kind := range kinds {
		for _, wait := range []int{0, 1, longest - 1, longest} {
			for _, term := range []int{1, 2, longest - 1, longest} {
				for _, sure := range []int{0, 1, term - 1, term} {
					f, e := api.Benefit{Kind: kind, Wait: wait, Term: term, Sure: sure}, api.OK
					if sure > 0 && !slices.Contains(sureKinds, kind) {
						e = api.ErrBenefit
					}
					want(t, fmt.Sprint("Check of ", f), value.Check(f).Error(), e.Error())
				}
			}
		}
	}
	for _, f := range noBenefits() {
		want(t, fmt.Sprint("Check of ", f), value.Check(f).Error(), refused(api.ErrBenefit))
	}
}

// 13.1: a table that is not right: chapter 9's error, ahead of all others.
func TestNoTables(t *testing.T) {
	for what, c := range map[string]struct {
		t api.Table
		e api.Errno
	}{
		"no name":              {changed(func(t *api.Table) { t.Name = "" }), api.ErrForm},
		"a wrong name":         {changed(func(t *api.Table) { t.Name = "T" }), api.ErrForm},
		"no first age":         {changed(func(t *api.Table) { t.First = -1 }), api.ErrAge},
		"a last age too great": {changed(func(t *api.Table) { t.First = oldest - 2 }), api.ErrAge},
		"a first age too far":  {changed(func(t *api.Table) { t.First = math.MaxInt }), api.ErrAge},
		"no rates":             {changed(func(t *api.Table) { t.Rates = nil }), api.ErrAge},
		"a rate below 0":       {changed(func(t *api.Table) { t.Rates[1] = -1 }), api.ErrRates},
		"a rate of Unit":       {changed(func(t *api.Table) { t.Rates[1] = unit }), api.ErrRates},
		"no Unit at the end":   {changed(func(t *api.Table) { t.Rates[3] = unit - 1 }), api.ErrRates},
		"a short Select":       {changed(func(t *api.Table) { t.Select[0] = t.Select[0][1:] }), api.ErrRates},
		"a wrong Select":       {changed(func(t *api.Table) { t.Select[0][0] = unit + 1 }), api.ErrRates},
	} {
		for _, rate := range []int{250000, -1} {
			for _, l := range []api.Life{{Entry: 60}, {Entry: -1}} {
				for _, f := range []api.Benefit{due, {}} {
					wantRefused(t, what, api.Basis{Table: c.t, Rate: rate}, l, f, c.e)
				}
			}
		}
	}
	wantRefused(t, "a basis with all wrong", broken(), api.Life{}, api.Benefit{}, api.ErrForm)
}

// 13.1: a basis whose Rate is out of its range, ahead of a life that is not of its table, and of a benefit that is not right.
func TestNoBasis(t *testing.T) {
	for _, rate := range []int{-1, -unit, -unit - 1, api.MaxRate + 1, math.MinInt, math.MaxInt} {
		for _, l := range []api.Life{{Entry: 60}, {Entry: -1}} {
			for _, f := range []api.Benefit{due, {}} {
				wantRefused(t, fmt.Sprint("the rate ", rate), api.Basis{Table: ages(), Rate: rate}, l, f, api.ErrRange)
			}
		}
	}
}

// 13.1: a life that is not of the table, ahead of a benefit that is not right.
func TestNoLives(t *testing.T) {
	for _, a := range append(tables(), longTables()...) {
		for _, l := range noLives(a) {
			for _, f := range []api.Benefit{due, {}} {
				wantRefused(t, fmt.Sprint(l), api.Basis{Table: a, Rate: 5}, l, f, api.ErrAge)
			}
		}
	}
}

// 13.1: a benefit that is not right, ahead of all that stands behind it.
func TestNoBenefits(t *testing.T) {
	b, l := sample()
	for _, f := range noBenefits() {
		wantRefused(t, "the examples' life", b, l, f, api.ErrBenefit)
	}
}

// 13.1: a life at its table's first age, and at its last one, is one of it, and each kind of benefit is right for it, at the ends of its range.
func TestRight(t *testing.T) {
	b, _ := sample()
	for _, l := range []api.Life{{Entry: 60}, {Entry: 63}, {Entry: 60, Years: 3}} {
		for _, kind := range kinds {
			for _, f := range []api.Benefit{{Kind: kind, Term: 1}, {Kind: kind, Wait: longest, Term: longest}} {
				for name, call := range calls(false) {
					e := api.OK
					if name == "Parts" && kind != api.BDue {
						e = api.ErrBenefit
					}
					if got := call(b, l, f); (got == refused(api.ErrBenefit)) != (e != api.OK) || got == refused(api.ErrAge) || got == refused(api.ErrRange) {
						t.Error(name, l, f, got)
					}
				}
			}
		}
	}
}

// R1: what stands behind a right benefit and is wrong.
func TestAllElseWrong(t *testing.T) {
	b, l := sample()
	want(t, "Chance", calls(true)["Chance"](b, l, due), refused(api.ErrShape))
	want(t, "Parts", calls(true)["Parts"](b, l, due), refused(api.ErrRange))
}
