package value_test

import (
	"fmt"
	"math"
	"math/big"
	"slices"
	"testing"

	"tontine/api"
	"tontine/value"
)

// inParts is what Woolhouse gives, of the value.
func inParts(w world, b api.Basis, f api.Benefit, parts int) *big.Rat {
	between := minus(times(power(b, f.Wait), w.lives(f.Wait)), times(power(b, f.Wait+f.Term), w.lives(f.Wait+f.Term)))
	return minus(w.value(f), times(rat(int64(parts-1), int64(2*parts)), between))
}

// 13.6: Parts, for benefits that reach to the last year, to just behind it, and past it; of one part it is the value.
func TestParts(t *testing.T) {
	r := random(136)
	check := func(what string, b api.Basis, l api.Life, count int) {
		w := worldOf(b, l)
		hasSure := func(f api.Benefit) bool { return f.Sure > 0 }
		for _, f := range someOf(r, slices.DeleteFunc(benefitsFor(api.BDue, len(w.deaths)), hasSure), count) {
			for _, parts := range []int{2, 365, 2 + r.Intn(363)} {
				want(t, fmt.Sprint("Parts of ", f, " of ", what, " by ", parts), tellRatio(value.Parts(b, l, f, parts)), inParts(w, b, f, parts).String())
			}
			want(t, fmt.Sprint("one part of ", f, " of ", what), tellRatio(value.Parts(b, l, f, 1)), w.value(f).String())
		}
	}
	eachLife(func(what string, b api.Basis, l api.Life) { check(what, b, l, 4) })
	eachLong(func(what string, b api.Basis, l api.Life) { check(what, b, l, 2) })
	b, l := sample()
	check("the examples' life", b, l, 1000)
	for _, first := range []int{0, 1, 2} { // somebody may be alive in 130 years, or in 129 at most, or in 128
		full := api.Basis{Table: tableOf(first, oldest+1-first, 0, always(0))}
		check(fmt.Sprint("all from ", first, " on"), full, api.Life{Entry: first}, 1000)
	}
}

// 13.6: ErrBenefit of what is no BDue, or has something sure, ahead of ErrRange of the parts.
func TestNoParts(t *testing.T) {
	b, l := sample()
	for _, parts := range []int{0, -1, -2, 366, 367, math.MinInt, math.MaxInt, 1, 2, 365} {
		for _, kind := range kinds {
			if kind != api.BDue {
				want(t, fmt.Sprint("Parts of the kind ", kind), tellRatio(value.Parts(b, l, api.Benefit{Kind: kind, Term: 2}, parts)), refused(api.ErrBenefit))
			}
		}
		for _, sure := range []int{-1, 1, 2, 3} {
			want(t, fmt.Sprint("Parts of ", sure, " sure"), tellRatio(value.Parts(b, l, api.Benefit{Kind: api.BDue, Term: 2, Sure: sure}, parts)), refused(api.ErrBenefit))
		}
		if parts < 1 || parts > 365 {
			want(t, fmt.Sprint("Parts by ", parts), tellRatio(value.Parts(b, l, due, parts)), refused(api.ErrRange))
		}
		want(t, "Parts of no basis", tellRatio(value.Parts(broken(), l, due, parts)), refused(api.ErrForm))
		want(t, "Parts of no life", tellRatio(value.Parts(b, api.Life{}, due, parts)), refused(api.ErrAge))
	}
}
