package tally

import (
	"math"
	"math/big"
	"math/rand"
	"testing"

	"tontine/api"
	"tontine/whole"
)

// Sums by numbers of this package are held against exact ones in package sum's tests.

// edges are of both signs, so that products meet that are alike, or nearly so (the square of 1 + 2^-52 lies 2^-104 above 1 + 2^-51).
func edges() []float64 {
	l := []float64{0, math.SmallestNonzeroFloat64, 3 * math.SmallestNonzeroFloat64, 0x1p-1022, 0x1p-537, 0.1, math.Nextafter(1, 0), 1, 1 + 0x1p-52, 1 + 0x1p-51, 0x1p537, math.MaxFloat64, math.Inf(1)}
	for _, x := range l {
		l = append(l, -x)
	}
	return l
}

// terms are all edges and their products that are not none, with their exact numbers, or nil of infinite ones.
func terms() ([]Term, []*big.Rat) {
	var all []Term
	var numbers []*big.Rat
	put := func(t Term, numbersOf ...float64) {
		if t.Kind == api.FloatNone {
			return
		}
		r := big.NewRat(1, 1)
		for _, x := range numbersOf {
			if math.IsInf(x, 0) {
				r = nil
				break
			}
			r.Mul(r, new(big.Rat).SetFloat64(x))
		}
		all, numbers = append(all, t), append(numbers, r)
	}
	for _, x := range edges() {
		put(OfFloat(x), x)
		for _, y := range edges() {
			put(OfProduct(x, y), x, y)
		}
	}
	return all, numbers
}

// compared is how two terms lie, by their numbers.
func compared(t, u Term, r, s *big.Rat) int {
	side := func(t Term, r *big.Rat) int {
		switch {
		case r != nil:
			return 0
		case t.Neg:
			return -1
		}
		return 1
	}
	if r != nil && s != nil {
		return r.Cmp(s)
	}
	return max(-1, min(1, side(t, r)-side(u, s)))
}

func TestCmp(t *testing.T) {
	all, numbers := terms()
	for i, x := range all {
		for j, y := range all {
			if got, wanted := x.Cmp(y), compared(x, y, numbers[i], numbers[j]); got != wanted {
				t.Fatalf("%v and %v: %d, want %d", x, y, got, wanted)
			}
		}
	}
}

// What terms come to is their exact sum; one that is no number counts as nought.
func TestNumber(t *testing.T) {
	all, numbers := terms()
	r := rand.New(rand.NewSource(1))
	for range 300 {
		var n, other Number
		sum := new(big.Rat)
		for range r.Intn(20) {
			i := r.Intn(len(all))
			if r.Intn(2) == 0 {
				n.Add(all[i])
			} else {
				other.Add(all[i])
			}
			if numbers[i] != nil {
				sum.Add(sum, numbers[i])
			}
		}
		n = n.Plus(other)
		a, e := n.Ratio()
		if a != (api.Ratio{Num: sum.Num().String(), Den: sum.Denom().String()}) || e != api.OK {
			t.Fatalf("%s/%s, %v, want %s", a.Num, a.Den, e, sum)
		}
		neg, size := n.Split()
		if back, ok := OfSize(neg, size, 20); back != n || !ok || neg != (sum.Sign() < 0) {
			t.Fatalf("%s is split and not put together", sum)
		}
	}
}

// What is greater than so many terms can come to is refused.
func TestOfSize(t *testing.T) {
	for _, terms := range []int{0, 1, 7, api.MaxTerms} {
		most := whole.Of(uint64(terms)).ShiftLeft(Places + 2048)
		for _, neg := range []bool{false, true} {
			n, ok := OfSize(neg, most, terms)
			if back, size := n.Split(); !ok || size.Cmp(most) != 0 || back != (neg && terms > 0) {
				t.Errorf("%d terms: the greatest size is refused, or comes back otherwise", terms)
			}
			if n, ok := OfSize(neg, most.Add(whole.Of(1)), terms); ok || n != (Number{}) {
				t.Errorf("%d terms: one more is taken", terms)
			}
		}
	}
}
