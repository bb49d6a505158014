package trial

import (
	"tontine/api"
	"tontine/exact"
	"tontine/whole"
)

// terms is a function that answers, one behind the other, the ways of 0, 1, 2 and so on among n, each times yes to just that power, and no to the power of what is left of n: the product grows by one factor from each to the next. If no is 0, the last one, which is not nought then, is never told.
func terms(n, yes, no int) func() whole.Nat {
	product, count := natural(no).Pow(n), 0
	return func() whole.Nat {
		term := product
		factor, divisor := max(n-count, 0)*yes, (count+1)*max(no, 1)
		product, _ = product.Mul(natural(factor)).DivMod(natural(divisor))
		count++
		return term
	}
}

// ways is the ways of k among n.
func ways(n, k int) whole.Nat {
	if k < 0 || k > n {
		return whole.Nat{}
	}
	next := terms(n, 1, 1)
	for range min(k, n-k) {
		next()
	}
	return next()
}

// chance is the binomial chance of at most k of n, yes and no being the parts of yes + no.
func chance(n, yes, no, k int) exact.Fraction {
	switch {
	case k < 0:
		return exact.OfInt(0)
	case k >= n:
		return exact.OfInt(1)
	}
	var sum whole.Nat
	next := terms(n, yes, no)
	for range k + 1 {
		sum = sum.Add(next())
	}
	return exact.Lowest(false, sum, natural(yes+no).Pow(n))
}

func areTrials(n int) bool { return n >= 0 && n <= MaxTrials }

// Ways is the ways of k among n, as a text (11.6).
func Ways(n, k int) (string, api.Errno) {
	if !areTrials(n) {
		return "", api.ErrRange
	}
	return ways(n, k).Text(), api.OK
}

// Binomial is the chance of at most k of n, each with the rate (11.6).
func Binomial(n, rate, k int) (api.Ratio, api.Errno) {
	if !areTrials(n) || !isRate(rate) {
		return api.Ratio{}, api.ErrRange
	}
	return chance(n, rate, api.Unit-rate, k).Ratio()
}

// Quantile is the least k for which the binomial chance is at least part (11.6).
func Quantile(n, rate int, part api.Ratio) (int, api.Errno) {
	if !areTrials(n) || !isRate(rate) {
		return 0, api.ErrRange
	}
	f, e := exact.Read(part)
	switch {
	case e != api.OK:
		return 0, e
	case f.Neg || f.Num.Cmp(f.Den) > 0:
		return 0, api.ErrRange
	}
	// Numerators over Unit to the n tell it: no chance is to be brought to lowest terms.
	f.Num = f.Num.Mul(natural(api.Unit).Pow(n))
	enough := f.Round(api.RoundCeil).Num
	var sum whole.Nat
	next := terms(n, rate, api.Unit-rate)
	for k := range n {
		sum = sum.Add(next())
		if sum.Cmp(enough) >= 0 {
			return k, api.OK
		}
	}
	return n, api.OK
}
