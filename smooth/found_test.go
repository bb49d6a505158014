package smooth

import (
	"testing"

	"tontine/api"
	"tontine/exact"
)

// hold tells a solution from what is only near to it, wherever that is not right.
func TestHold(t *testing.T) {
	near := exact.OfInt(10).Power(-20000)
	for order := 1; order <= api.MaxOrder; order++ {
		const n = 9
		seen, weights := make([]exact.Fraction, n), make([]int, n)
		for i := range n {
			seen[i], weights[i] = exact.OfInt(7), 1+i
		}
		q, e := newEquations(n, weights, order, 5)
		if e != api.OK {
			t.Fatal(e)
		}
		if !q.hold(seen, seen) {
			t.Error("numbers that are all the same do not stay")
		}
		for i := range n {
			g := append([]exact.Fraction(nil), seen...)
			g[i] = g[i].Plus(near)
			if q.hold(g, seen) {
				t.Errorf("a solution by order %d that is none at %d", order, i)
			}
			if q.hold(seen, g) {
				t.Errorf("a solution by order %d of what was not seen at %d", order, i)
			}
		}
	}
}

// Both ways to come to a graduation come to the same, also where a common denominator is short.
func TestFoundIsReckoned(t *testing.T) {
	for order := 1; order <= api.MaxOrder; order++ {
		for n := order + 1; n <= order+4; n++ {
			seen, weights := make([]exact.Fraction, n), make([]int, n)
			for i := range n {
				seen[i] = exact.OfInt(1 - 3*i*i%7).Times(exact.OfInt(2 + i).Inverse())
				weights[i] = 1 + i*5%7
			}
			weights[n/2] = min(weights[n/2], n-order-1) // 0, where enough others are left
			q, e := newEquations(n, weights, order, api.MaxWeight)
			if e != api.OK {
				t.Fatal(e)
			}
			common, ok := q.commonDen(seen)
			if !ok {
				t.Fatal("no common denominator")
			}
			reckoned, e := q.reckoned(seen, common)
			found, other := q.found(seen)
			if e != api.OK || other != api.OK || len(found) != n {
				t.Fatal(e, other)
			}
			for i := range n {
				if found[i] != reckoned[i] {
					t.Errorf("order %d, %d of %d: %v found, %v reckoned", order, i, n, found[i], reckoned[i])
				}
			}
		}
	}
}

// entryBits: the greatest entry, and the sum of all weights.
func TestEntries(t *testing.T) {
	const most = 1 << entryBits
	weights := make([]int, api.MaxPoints)
	for i := range weights {
		weights[i] = api.MaxWeight
	}
	for order := 1; order <= api.MaxOrder; order++ {
		q, e := newEquations(len(weights), weights, order, api.MaxWeight)
		if e != api.OK {
			t.Fatal(e)
		}
		for i := range weights {
			for j := range weights {
				if x := q.at(i, j); x >= most || x <= -most || x != q.at(j, i) || x != 0 && max(i-j, j-i) > order {
					t.Errorf("order %d: A(%d, %d) is %d", order, i, j, x)
				}
			}
		}
	}
	if api.MaxPoints*api.MaxWeight >= most {
		t.Error("all weights together are too much")
	}
}
