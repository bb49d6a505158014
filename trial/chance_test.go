package trial_test

import (
	"fmt"
	"math"
	"math/big"
	"math/rand"
	"sort"
	"testing"

	"tontine/api"
	"tontine/trial"
)

const trials = trial.MaxTrials

// 11.6: the ways of all k among many n, at both ends and beyond them.
func TestWays(t *testing.T) {
	for _, n := range []int{0, 1, 2, 3, 10, 64, 67, 68, 200, trials - 1, trials} {
		for k := -2; k <= n+2; k++ {
			want(t, fmt.Sprint("Ways ", n, " ", k), tellText(trial.Ways(n, k)), choose(n, k).String())
		}
		for _, k := range []int{-trials, 2 * trials, math.MinInt, math.MaxInt} {
			want(t, fmt.Sprint("Ways ", n, " ", k), tellText(trial.Ways(n, k)), "0")
		}
	}
	for _, c := range []struct {
		n, k   int
		wanted string
	}{{0, 0, "1"}, {0, 1, "0"}, {0, -1, "0"}, {1, 0, "1"}, {1, 1, "1"}, {4, 2, "6"}, {trials, 0, "1"}, {trials, trials, "1"}, {trials, 1, "1024"}, {trials, trials - 1, "1024"}, {trials, 2, "523776"}, {trials, trials + 1, "0"}} {
		want(t, fmt.Sprint("Ways ", c.n, " ", c.k), tellText(trial.Ways(c.n, c.k)), c.wanted)
	}
}

// anyRate is often an end of its range, or one with few digits.
func anyRate(r *rand.Rand) int {
	switch r.Intn(4) {
	case 0:
		return []int{0, 1, api.Unit - 1, api.Unit}[r.Intn(4)]
	case 1:
		return r.Intn(11) * api.Unit / 10
	}
	return r.Intn(api.Unit + 1)
}

func part(rate int) *big.Rat { return big.NewRat(int64(rate), api.Unit) }

// 11.6: any binomial chances.
func TestBinomial(t *testing.T) {
	r := random(116)
	for i := range 400 {
		n, rate := i%13, anyRate(r)
		for k := -2; k <= n+2; k++ {
			want(t, fmt.Sprint("Binomial ", n, " ", rate, " ", k), tell(trial.Binomial(n, rate, k)), exactly(tail(n, part(rate), k)))
		}
	}
	for range 60 {
		n, rate := r.Intn(250), anyRate(r)
		k := r.Intn(n + 1)
		want(t, fmt.Sprint("Binomial ", n, " ", rate, " ", k), tell(trial.Binomial(n, rate, k)), exactly(tail(n, part(rate), k)))
	}
}

// 11.6: no trials and the most; rates that are ends; k beyond both ends.
func TestBinomialAtEdges(t *testing.T) {
	for _, n := range []int{0, 1, 5, trials} {
		for _, rate := range []int{0, 1, 5000000, api.Unit - 1, api.Unit} {
			for _, k := range []int{-1, -trials, math.MinInt} {
				want(t, fmt.Sprint("Binomial ", n, " ", rate, " ", k), tell(trial.Binomial(n, rate, k)), "0/1")
			}
			for _, k := range []int{n, n + 1, 2 * trials, math.MaxInt} {
				want(t, fmt.Sprint("Binomial ", n, " ", rate, " ", k), tell(trial.Binomial(n, rate, k)), "1/1")
			}
		}
		for k := range n {
			want(t, fmt.Sprint("Binomial of nobody ", n, " ", k), tell(trial.Binomial(n, 0, k)), "1/1")
			want(t, fmt.Sprint("Binomial of all ", n, " ", k), tell(trial.Binomial(n, api.Unit, k)), "0/1")
		}
	}
	want(t, "Binomial of one", tell(trial.Binomial(1, 1, 0)), "9999999/10000000")
	want(t, "Binomial of one", tell(trial.Binomial(1, api.Unit-1, 0)), "1/10000000")
	for _, k := range []int{0, 1, 500, 511, 512, trials - 1} {
		want(t, fmt.Sprint("Binomial of halves ", k), tell(trial.Binomial(trials, api.Unit/2, k)), exactly(tail(trials, big.NewRat(1, 2), k)))
		want(t, fmt.Sprint("Binomial of fifths ", k), tell(trial.Binomial(trials, api.Unit/5, k)), exactly(tail(trials, big.NewRat(1, 5), k)))
	}
}

// 11.6, R2: chances of just MaxDigits digits, of one more, and of many more: but not where they are 0 or 1.
func TestBinomialLong(t *testing.T) {
	seen := map[int]int{}
	for _, step := range []int{1, 2, 4, 5, 8, 10, 16, 20, 25, 40, 50, 64, 100, 125, 200, 250, 500, 625, 1000} {
		for rate := step; rate <= 3*step; rate += step {
			base := api.Unit / big.NewInt(0).GCD(nil, nil, big.NewInt(int64(rate)), big.NewInt(api.Unit)).Int64()
			for n := 580; n <= trials; n++ {
				digits := int(float64(n)*math.Log10(float64(base)) + 1.000001)
				if digits < api.MaxDigits-1 || digits > api.MaxDigits+2 {
					continue
				}
				for _, k := range []int{0, 1, n - 1} {
					chance := longTail(n, rate, k)
					seen[most(chance)]++
					want(t, fmt.Sprint("Binomial ", n, " ", rate, " ", k), tell(trial.Binomial(n, rate, k)), exactly(chance))
				}
			}
		}
	}
	if seen[api.MaxDigits] == 0 || seen[api.MaxDigits+1] == 0 {
		t.Error("no chance is as long as it may be, or just longer: ", seen)
	}
	want(t, "digits", fmt.Sprint(most(longTail(585, 1, 0)), " ", most(longTail(trials, 1000, 0))), fmt.Sprint(api.MaxDigits, " ", api.MaxDigits+1))
	want(t, "as long as it may be", tell(trial.Binomial(585, 1, 0)), longTail(585, 1, 0).String())
	want(t, "one digit more", tell(trial.Binomial(trials, 1000, 0)), refused(api.ErrLong))
	for _, rate := range []int{1, 3333333, api.Unit - 1} {
		for _, k := range []int{0, 1, 512, trials - 1} {
			want(t, fmt.Sprint("Binomial ", rate, " ", k), tell(trial.Binomial(trials, rate, k)), refused(api.ErrLong))
		}
		want(t, "below 0", tell(trial.Binomial(trials, rate, -1)), "0/1")
		want(t, "all", tell(trial.Binomial(trials, rate, trials)), "1/1")
	}
}

// numerators are those of the chances of at most 0, 1, .. n, over Unit to the n.
func numerators(n, rate int) []*big.Int {
	all, so := make([]*big.Int, n+1), new(big.Int)
	for j := range n + 1 {
		so = new(big.Int).Add(so, term(n, rate, j))
		all[j] = so
	}
	return all
}

// longTail is the binomial chance of k from 0 to n, in whole numbers, which is faster.
func longTail(n, rate, k int) *big.Rat {
	all := new(big.Int)
	for j := range k + 1 {
		all.Add(all, term(n, rate, j))
	}
	return new(big.Rat).SetFrac(all, raised(api.Unit, n))
}

// term is the chance of just j of n, times Unit to the n.
func term(n, rate, j int) *big.Int {
	powers := new(big.Int).Mul(raised(rate, j), raised(api.Unit-rate, n-j))
	return powers.Mul(powers, choose(n, j))
}

func raised(x, n int) *big.Int {
	return new(big.Int).Exp(big.NewInt(int64(x)), big.NewInt(int64(n)), nil)
}

// least is the least k for which the chance is at least part: chances rise, and the last one is 1.
func least(chances []*big.Int, part *big.Rat) int {
	enough := new(big.Int).Mul(part.Num(), chances[len(chances)-1])
	return sort.Search(len(chances)-1, func(k int) bool {
		return new(big.Int).Mul(chances[k], part.Denom()).Cmp(enough) >= 0
	})
}

// anyPart is one from 0 to 1, with up to so many digits below.
func anyPart(r *rand.Rand, digits int) *big.Rat {
	den := raised(10, r.Intn(digits))
	den.Add(den, new(big.Int).Rand(r, den))
	return new(big.Rat).SetFrac(new(big.Int).Rand(r, new(big.Int).Add(den, big.NewInt(1))), den)
}

// 11.6, 11.10: the least k for any parts, the chances themselves, and what lies just beside them.
func TestQuantile(t *testing.T) {
	r := random(1161)
	for i := range 150 {
		n, rate := i%15, anyRate(r)
		chances := numerators(n, rate)
		all := chances[n]
		parts := []*big.Rat{whole(0), whole(1), big.NewRat(1, 2), anyPart(r, 3), anyPart(r, 12), anyPart(r, 200)}
		tiny := new(big.Rat).SetFrac(big.NewInt(1), new(big.Int).Mul(all, big.NewInt(1000)))
		for _, so := range chances {
			chance := new(big.Rat).SetFrac(so, all)
			for _, p := range []*big.Rat{chance, plus(chance, tiny), minus(chance, tiny)} {
				if p.Sign() >= 0 && p.Cmp(whole(1)) <= 0 {
					parts = append(parts, p)
				}
			}
		}
		for _, p := range parts {
			want(t, fmt.Sprint("Quantile ", n, " ", rate, " ", p), tellInt(trial.Quantile(n, rate, fromBig(p))), fmt.Sprint(least(chances, p)))
		}
	}
}

// 11.6: parts 0 and 1, rates 0 and Unit, no trials and the most.
func TestQuantileAtEdges(t *testing.T) {
	for _, n := range []int{0, 1, 7, trials} {
		for _, rate := range []int{0, 1, 5000000, api.Unit - 1, api.Unit} {
			top := fmt.Sprint(n)
			if rate == 0 {
				top = "0"
			}
			want(t, fmt.Sprint("Quantile of part 0 ", n, " ", rate), tellInt(trial.Quantile(n, rate, of("0"))), "0")
			want(t, fmt.Sprint("Quantile of part 1 ", n, " ", rate), tellInt(trial.Quantile(n, rate, of("1"))), top)
		}
		for _, p := range []string{"1/2", "1/" + nines(api.MaxDigits), nines(api.MaxDigits-1) + "8/" + nines(api.MaxDigits)} {
			want(t, fmt.Sprint("Quantile of nobody ", n), tellInt(trial.Quantile(n, 0, of(p))), "0")
			want(t, fmt.Sprint("Quantile of all ", n), tellInt(trial.Quantile(n, api.Unit, of(p))), fmt.Sprint(n))
		}
	}
	want(t, "Quantile of the least part", tellInt(trial.Quantile(trials, 5000000, of("1/"+nines(api.MaxDigits)))), "0")
	want(t, "Quantile of the greatest part", tellInt(trial.Quantile(trials, 5000000, of(nines(api.MaxDigits-1)+"8/"+nines(api.MaxDigits)))), fmt.Sprint(trials))
	want(t, "Quantile of one", tellInt(trial.Quantile(1, 1, of("9999999/10000000"))), "0")
	want(t, "Quantile of one", tellInt(trial.Quantile(1, 1, of("99999991/100000000"))), "1")
}

// 11.6: chances that are too long to be answered are held against part all the same, to the last digit.
func TestQuantileOfLongChances(t *testing.T) {
	r := random(1162)
	for _, n := range []int{586, 900, trials} {
		for _, rate := range []int{1, 3, 1234567, 3333333, 5000001, api.Unit - 1} {
			chances := numerators(n, rate)
			for i := range 12 {
				p := anyPart(r, []int{2, 30, api.MaxDigits - 1}[i%3])
				if i%4 == 3 { // as near to a chance as a part may be, below it
					den := raised(10, api.MaxDigits-1)
					num := new(big.Int).Mul(chances[r.Intn(n)], den)
					p = new(big.Rat).SetFrac(num.Div(num, chances[n]), den)
				}
				want(t, fmt.Sprint("Quantile ", n, " ", rate, " ", p), tellInt(trial.Quantile(n, rate, fromBig(p))), fmt.Sprint(least(chances, p)))
			}
		}
	}
}
