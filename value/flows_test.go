package value_test

import (
	"fmt"
	"math"
	"slices"
	"testing"

	"tontine/api"
	"tontine/value"
)

// flowsOf are payments, by rising times.
func flowsOf(paid map[int]int) []api.Flow {
	var l []api.Flow
	for time, amount := range paid {
		l = append(l, api.Flow{Time: time, Amount: amount})
	}
	slices.SortFunc(l, func(x, y api.Flow) int { return x.Time - y.Time })
	return l
}

// 13.2: each kind, with Wait, Term and Sure at their ends and between, on a death in each year that is told apart: 0, just ahead of Wait and at Wait, about the last payment that is sure, just ahead of e and at e, MaxYears.
func TestFlows(t *testing.T) {
	for _, kind := range kinds {
		for _, m := range []int{1, 4, 30, longest, longest + 1} {
			for _, f := range benefitsFor(kind, m) {
				end := f.Wait + f.Term
				for _, k := range []int{0, 1, f.Wait - 1, f.Wait, f.Wait + 1, f.Wait + f.Sure - 1, f.Wait + f.Sure, f.Wait + f.Sure + 1, end - 2, end - 1, end, end + 1, longest - 1, longest} {
					if k >= 0 && k <= longest {
						want(t, fmt.Sprint("Flows of ", f, " in ", k), tellFlows(value.Flows(f, k)), tellFlows(flowsOf(payments(f, k)), api.OK))
					}
				}
			}
		}
	}
}

// 13.2: what each kind pays, written out.
func TestFlowsWrittenOut(t *testing.T) {
	for _, c := range []struct {
		f      api.Benefit
		k      int
		wanted string
	}{
		{api.Benefit{Kind: api.BAssure, Wait: 2, Term: 3}, 1, ""},
		{api.Benefit{Kind: api.BAssure, Wait: 2, Term: 3}, 2, "1 at 3"},
		{api.Benefit{Kind: api.BAssure, Wait: 2, Term: 3}, 4, "1 at 5"},
		{api.Benefit{Kind: api.BAssure, Wait: 2, Term: 3}, 5, ""},
		{api.Benefit{Kind: api.BEndow, Wait: 2, Term: 3}, 4, ""},
		{api.Benefit{Kind: api.BEndow, Wait: 2, Term: 3}, 5, "1 at 5"},
		{api.Benefit{Kind: api.BEndow, Wait: 2, Term: 3}, 130, "1 at 5"},
		{api.Benefit{Kind: api.BBoth, Wait: 2, Term: 3}, 1, ""},
		{api.Benefit{Kind: api.BBoth, Wait: 2, Term: 3}, 4, "1 at 5"},
		{api.Benefit{Kind: api.BBoth, Wait: 2, Term: 3}, 6, "1 at 5"},
		{api.Benefit{Kind: api.BDue, Wait: 2, Term: 3}, 1, ""},
		{api.Benefit{Kind: api.BDue, Wait: 2, Term: 3}, 2, "1 at 2"},
		{api.Benefit{Kind: api.BDue, Wait: 2, Term: 3}, 9, "1 at 2, 1 at 3, 1 at 4"},
		{api.Benefit{Kind: api.BDue, Wait: 2, Term: 3, Sure: 2}, 0, "1 at 2, 1 at 3"},
		{api.Benefit{Kind: api.BDue, Wait: 2, Term: 3, Sure: 2}, 3, "1 at 2, 1 at 3"},
		{api.Benefit{Kind: api.BDue, Wait: 2, Term: 3, Sure: 2}, 4, "1 at 2, 1 at 3, 1 at 4"},
		{api.Benefit{Kind: api.BLate, Wait: 2, Term: 3}, 2, ""},
		{api.Benefit{Kind: api.BLate, Wait: 2, Term: 3}, 3, "1 at 3"},
		{api.Benefit{Kind: api.BLate, Wait: 2, Term: 3}, 9, "1 at 3, 1 at 4, 1 at 5"},
		{api.Benefit{Kind: api.BLate, Wait: 2, Term: 3, Sure: 2}, 4, "1 at 3, 1 at 4"},
		{api.Benefit{Kind: api.BLate, Wait: 2, Term: 3, Sure: 3}, 0, "1 at 3, 1 at 4, 1 at 5"},
		{api.Benefit{Kind: api.BLate, Wait: 130, Term: 1, Sure: 1}, 130, "1 at 131"},
		{api.Benefit{Kind: api.BRising, Wait: 2, Term: 3}, 2, "1 at 3"},
		{api.Benefit{Kind: api.BRising, Wait: 2, Term: 3}, 4, "3 at 5"},
		{api.Benefit{Kind: api.BRising, Wait: 2, Term: 3}, 5, ""},
		{api.Benefit{Kind: api.BFalling, Wait: 2, Term: 3}, 1, ""},
		{api.Benefit{Kind: api.BFalling, Wait: 2, Term: 3}, 2, "3 at 3"},
		{api.Benefit{Kind: api.BFalling, Wait: 2, Term: 3}, 4, "1 at 5"},
		{api.Benefit{Kind: api.BFalling, Term: 130}, 0, "130 at 1"},
		{api.Benefit{Kind: api.BRising, Wait: 1, Term: 130}, 130, "130 at 131"},
		{api.Benefit{Kind: api.BEndow, Wait: 1, Term: 130}, 130, ""},
	} {
		want(t, fmt.Sprint("Flows of ", c.f, " in ", c.k), tellFlows(value.Flows(c.f, c.k)), c.wanted)
	}
}

// 13.1: of Flows Check's error, then ErrRange of the year.
func TestNoFlows(t *testing.T) {
	for _, k := range append(noYears, 0, longest) {
		for _, f := range noBenefits() {
			want(t, fmt.Sprint("Flows of ", f, " in ", k), tellFlows(value.Flows(f, k)), refused(api.ErrBenefit))
		}
	}
	for _, k := range append(noYears, math.MaxInt-1) {
		for _, kind := range kinds {
			for _, f := range []api.Benefit{{Kind: kind, Term: 1}, {Kind: kind, Wait: longest, Term: longest}} {
				want(t, fmt.Sprint("Flows of ", f, " in ", k), tellFlows(value.Flows(f, k)), refused(api.ErrRange))
			}
		}
	}
}
