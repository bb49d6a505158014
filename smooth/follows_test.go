package smooth_test

import (
	"fmt"
	"math/big"
	"math/rand"
	"testing"

	"tontine/api"
	"tontine/smooth"
)

// exactly is a graduation that there is, as exact numbers.
func exactly(t *testing.T, seen []*big.Rat, weights []int, order, h int) []*big.Rat {
	t.Helper()
	g, e := smooth.Graduate(fromBigs(seen), weights, order, h)
	if e != api.OK {
		t.Fatal(weights, order, h, e)
	}
	return toBigs(g)
}

// measured is F and R, as exact numbers.
func measured(t *testing.T, seen []*big.Rat, weights []int, order int, g []*big.Rat) (*big.Rat, *big.Rat) {
	t.Helper()
	f, r, e := smooth.Measure(fromBigs(seen), weights, order, fromBigs(g))
	if e != api.OK {
		t.Fatal(weights, order, e)
	}
	return toBig(f), toBig(r)
}

// cases hands what has just one graduation to check, of all orders and lengths, small and long ones.
func cases(seed int64, count int, check func(r *rand.Rand, seen []*big.Rat, weights []int, order, h int)) {
	r := random(seed)
	for count > 0 {
		n := 1 + r.Intn(14)
		weights, order, h := anyWeights(r, n), 1+r.Intn(api.MaxOrder), smooths[r.Intn(len(smooths))]
		if !isSingular(weights, order, h) {
			check(r, anyNumbers(r, n, 1+r.Intn(5)), weights, order, h)
			count--
		}
	}
}

// 10.5: F + h R is not above that of any other numbers, near ones and far ones.
func TestLeast(t *testing.T) {
	cases(1050, 200, func(r *rand.Rand, seen []*big.Rat, weights []int, order, h int) {
		g := exactly(t, seen, weights, order, h)
		cost := func(l []*big.Rat) *big.Rat {
			f, rough := measured(t, seen, weights, order, l)
			return plus(f, times(whole(h), rough))
		}
		least := cost(g)
		for range 6 {
			l := append([]*big.Rat(nil), g...)
			for range 1 + r.Intn(3) {
				i := r.Intn(len(l))
				l[i] = plus(l[i], by(anyNumber(r, 2), whole(1+r.Intn(1<<40))))
			}
			if cost(l).Cmp(least) < 0 {
				t.Errorf("%v %v %d %d: %v is better than %v", seen, weights, order, h, l, g)
			}
		}
		for _, l := range [][]*big.Rat{seen, repeated(whole(0), len(seen)), anyNumbers(r, len(seen), 3)} {
			if cost(l).Cmp(least) < 0 {
				t.Errorf("%v %v %d %d: %v is better than %v", seen, weights, order, h, l, g)
			}
		}
	})
}

// 10.6: moments are kept, of powers below the order; one of that power mostly is not.
func TestMomentsAreKept(t *testing.T) {
	others := 0
	cases(1060, 200, func(r *rand.Rand, seen []*big.Rat, weights []int, order, h int) {
		g := fromBigs(exactly(t, seen, weights, order, h))
		if len(seen) <= order {
			return
		}
		for power := range order {
			want(t, fmt.Sprint("Moment ", power, " of ", seen, weights, order, h), tell(smooth.Moment(fromBigs(seen), weights, g, power)), "0/1")
		}
		if m, _ := smooth.Moment(fromBigs(seen), weights, g, order); m.Num != "0" {
			others++
		}
	})
	if others < 20 {
		t.Error("only", others, "moments of the order's power are not kept")
	}
	r := random(1061)
	seen, weights := anyNumbers(r, points, 4), anyWeights(r, points)
	for order := 1; order <= api.MaxOrder; order++ {
		g := fromBigs(exactly(t, seen, weights, order, heaviest))
		for power := range order {
			want(t, fmt.Sprint("Moment ", power, " of many, order ", order), tell(smooth.Moment(fromBigs(seen), weights, g, power)), "0/1")
		}
	}
}

// 10.6: polynomials of a degree below the order stay, also where their weights are 0; one of that degree does not.
func TestPolynomialsStay(t *testing.T) {
	cases(1062, 200, func(r *rand.Rand, seen []*big.Rat, weights []int, order, h int) {
		if len(seen) > order {
			l := polynomial(anyNumbers(r, order, 6), len(seen))
			want(t, fmt.Sprint("a polynomial by ", weights, " ", order, " ", h), listed(exactly(t, l, weights, order, h)...), listed(l...))
			if some := with(l, 0, whole(7)); weights[0] == 0 { // what was seen there tells nothing
				want(t, fmt.Sprint("some of a polynomial by ", weights, " ", order, " ", h), listed(exactly(t, some, weights, order, h)...), listed(l...))
			}
		}
	})
	for order := 1; order <= api.MaxOrder; order++ {
		l := polynomial(append(repeated(whole(1), order), big.NewRat(1, 2)), points)
		g := listed(exactly(t, l[:20], repeated(1, 20), order, 1)...)
		want(t, "a polynomial of too high a degree stays", fmt.Sprint(g == listed(l[:20]...)), "false")
		l = polynomial(anyNumbers(random(int64(order)), order, 9), points)
		want(t, "a polynomial of many", listed(exactly(t, l, repeated(heaviest, points), order, heaviest)...), listed(l...))
	}
}

// 10.7: without smoothness nothing changes; the graduation of sums is the sum of the graduations.
func TestGraduationsOfSums(t *testing.T) {
	cases(1070, 150, func(r *rand.Rand, seen []*big.Rat, weights []int, order, h int) {
		other, sums := anyNumbers(r, len(seen), 5), make([]*big.Rat, len(seen))
		for i := range seen {
			sums[i] = plus(seen[i], other[i])
		}
		g, more := exactly(t, seen, weights, order, h), exactly(t, other, weights, order, h)
		for i := range g {
			g[i] = plus(g[i], more[i])
		}
		want(t, fmt.Sprint("sums of ", seen, other, weights, order, h), listed(exactly(t, sums, weights, order, h)...), listed(g...))
		positive := append([]int(nil), weights...)
		for i := range positive {
			positive[i] = max(positive[i], 1)
		}
		want(t, "without smoothness", listed(exactly(t, seen, positive, order, 0)...), listed(seen...))
	})
}

// 10.7: with a greater smoothness R is not greater, and F not lesser.
func TestGreaterSmoothness(t *testing.T) {
	fell := 0
	cases(1071, 100, func(r *rand.Rand, seen []*big.Rat, weights []int, order, h int) {
		f, rough := measured(t, seen, weights, order, exactly(t, seen, weights, order, h))
		for _, more := range []int{h, h + 1, 2*h + 5, heaviest} {
			more = min(more, heaviest)
			nextF, next := measured(t, seen, weights, order, exactly(t, seen, weights, order, more))
			if next.Cmp(rough) > 0 || nextF.Cmp(f) < 0 {
				t.Errorf("%v %v %d: by %d rougher or nearer than by less", seen, weights, order, more)
			}
			if next.Cmp(rough) < 0 {
				fell++
			}
			f, rough = nextF, next
		}
	})
	if fell < 30 {
		t.Error("R fell only", fell, "times")
	}
}
