package trial_test

import (
	"fmt"
	"math/big"
	"math/rand"
	"strings"
	"testing"

	"tontine/api"
	"tontine/trial"
)

func toBig(r api.Ratio) *big.Rat {
	x, ok := new(big.Rat).SetString(r.Num + "/" + r.Den)
	if !ok {
		panic("no exact number: " + r.Num + "/" + r.Den)
	}
	return x
}

// 11.8: squares do not hang on the order, are not below nought, and are nought without deviations, and only then.
func TestSquaresInAnyOrder(t *testing.T) {
	lists(118, 200, func(r *rand.Rand, l []api.Cell) {
		l = possible(l)
		square, n, e := trial.Square(l)
		other := append([]api.Cell(nil), l...)
		r.Shuffle(len(other), func(i, j int) { other[i], other[j] = other[j], other[i] })
		want(t, fmt.Sprint("Square ", l, " in another order"), tellCounted(trial.Square(other)), tellCounted(square, n, e))
		if e == api.OK {
			still := strings.Trim(signsOf(l), "0") == ""
			if sign := toBig(square).Sign(); sign < 0 || (sign == 0) != still {
				t.Errorf("Square %v: %v", l, square)
			}
		}
		var none []api.Cell
		for _, c := range l {
			if deviation(c).Sign() == 0 {
				none = append(none, c)
			}
		}
		square, _, e = trial.Square(none)
		want(t, "Square without deviations", tell(square, e), "0/1")
	})
}

// 11.8: groups keep all deaths, all that was expected and all spreads; they stand one behind the other; and each but a lone one expects at least so many.
func TestGroupsKeepAll(t *testing.T) {
	lists(1180, 200, func(r *rand.Rand, l []api.Cell) {
		for _, least := range leasts(r, l) {
			groups, e := trial.Groups(l, least)
			next, died, meant, spreads := 0, 0, new(big.Rat), new(big.Rat)
			for _, g := range groups {
				want(t, "a group's first cell", fmt.Sprint(g.From, g.From <= g.To), fmt.Sprint(next, true))
				next, died = g.To+1, died+g.Deaths
				meant.Add(meant, toBig(g.Expected))
				spreads.Add(spreads, toBig(g.Spread))
				if len(groups) > 1 && toBig(g.Expected).Cmp(whole(least)) < 0 {
					t.Errorf("%v, %d: a group expects less: %v", l, least, g)
				}
			}
			want(t, fmt.Sprint("Groups ", l, " ", least), fmt.Sprint(int(e), next, died, meant, spreads), fmt.Sprint(0, len(l), deaths(l), sum(l, expected), sum(l, spread)))
		}
	})
}

// waysOf is what Ways tells, as a whole number.
func waysOf(t *testing.T, n, k int) *big.Int {
	t.Helper()
	s, e := trial.Ways(n, k)
	x, ok := new(big.Int).SetString(s, 10)
	if e != api.OK || !ok {
		t.Fatal("Ways", n, k, s, e)
	}
	return x
}

// 11.9: Pascal's rule, beyond the ends too.
func TestPascal(t *testing.T) {
	check := func(n, k int) {
		t.Helper()
		both := new(big.Int).Add(waysOf(t, n, k), waysOf(t, n, k+1))
		want(t, fmt.Sprint("Ways ", n+1, " ", k+1), waysOf(t, n+1, k+1).String(), both.String())
	}
	for n := range 40 {
		for k := -3; k <= n+3; k++ {
			check(n, k)
		}
	}
	r := random(119)
	for range 200 {
		n := r.Intn(trials)
		check(n, r.Intn(n+1))
		check(trials-1, r.Intn(trials+2)-1)
	}
}

// chanceOf is what Binomial tells.
func chanceOf(t *testing.T, n, rate, k int) *big.Rat {
	t.Helper()
	b, e := trial.Binomial(n, rate, k)
	if e != api.OK {
		t.Fatal("Binomial", n, rate, k, e)
	}
	return toBig(b)
}

// 11.9: chances rise with k, fall with the rate, and are 1 together with those of what does not come.
func TestChancesRise(t *testing.T) {
	r := random(1190)
	for range 60 {
		n, rate := r.Intn(60), anyRate(r)
		lower := r.Intn(rate + 1)
		before := whole(0)
		for k := -2; k <= n+2; k++ {
			chance := chanceOf(t, n, rate, k)
			if chance.Cmp(before) < 0 {
				t.Errorf("Binomial %d, %d, %d falls", n, rate, k)
			}
			if 0 < rate && rate < api.Unit && k >= 0 && k <= n && chance.Cmp(before) == 0 {
				t.Errorf("Binomial %d, %d, %d does not rise", n, rate, k)
			}
			if chanceOf(t, n, lower, k).Cmp(chance) < 0 {
				t.Errorf("Binomial %d, %d, %d rises with the rate", n, rate, k)
			}
			want(t, fmt.Sprint("Binomial ", n, " ", rate, " ", k, " and what is left"), plus(chance, chanceOf(t, n, api.Unit-rate, n-k-1)).String(), "1/1")
			before = chance
		}
	}
}

// 11.9: the chance is 1 of as many runs as there can be, and below 1 of less.
func TestMostRuns(t *testing.T) {
	for a := range 30 {
		for b := range 30 {
			most := min(a, b+1)
			signs := strings.Repeat("+-", most)
			if most == b+1 {
				signs = signs[:len(signs)-1]
			}
			rest := strings.Repeat("+", a-most) + signs + strings.Repeat("-", max(b-most, 0))
			want(t, "Runs of "+rest, tellRuns(trial.Runs(signed(rest))), fmt.Sprint(most, " 1/1"))
			if together := strings.Repeat("+", a) + strings.Repeat("-", b); most > 1 {
				_, chance, _ := trial.Runs(signed(together))
				want(t, "Runs of "+together+" is below 1", fmt.Sprint(toBig(chance).Cmp(whole(1))), "-1")
			}
		}
	}
}

// 11.10: of Quantile's k the chance reaches part, of k - 1 it does not.
func TestQuantileIsJustEnough(t *testing.T) {
	r := random(1110)
	for range 200 {
		n, rate, p := r.Intn(200), anyRate(r), anyPart(r, 40)
		k, e := trial.Quantile(n, rate, fromBig(p))
		want(t, "Quantile's error", tellErrno(e), "right")
		if k < 0 || k > n || chanceOf(t, n, rate, k).Cmp(p) < 0 || k > 0 && chanceOf(t, n, rate, k-1).Cmp(p) >= 0 {
			t.Errorf("Quantile %d, %d, %v: %d", n, rate, p, k)
		}
	}
}
