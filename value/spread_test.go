package value_test

import (
	"fmt"
	"math/big"
	"strings"
	"testing"

	"tontine/api"
	"tontine/value"
)

// 13.4: the mean of the squares of W(k), less the square of the value.
func TestSpread(t *testing.T) {
	check := func(what string, b api.Basis, l api.Life, f api.Benefit) {
		want(t, "Spread of "+what, tellRatio(value.Spread(b, l, f)), worldOf(b, l).spread(f).String())
	}
	eachBenefit(2, check)
	eachLongBenefit(1, check)
}

// 13.4: the examples' life at no interest, of whom 0.1, 0.18, 0.36 and 0.36 die, a year each.
func TestSpreadOfTheExamples(t *testing.T) {
	b, l := sample()
	b.Rate = 0
	for _, c := range []struct {
		f      api.Benefit
		wanted *big.Rat
	}{
		{api.Benefit{Kind: api.BAssure, Term: 1}, rat(9, 100)},
		{api.Benefit{Kind: api.BEndow, Term: 2}, rat(72*28, 10000)},
		{api.Benefit{Kind: api.BBoth, Term: 2}, rat(0, 1)},
		{api.Benefit{Kind: api.BDue, Term: 9}, minus(rat(10+4*18+9*36+16*36, 100), rat(298*298, 10000))},
		{api.Benefit{Kind: api.BDue, Term: 9, Sure: 3}, rat(36*64, 10000)},
		{api.Benefit{Kind: api.BRising, Wait: 1, Term: 9}, minus(rat(18+4*36+9*36, 100), rat(198*198, 10000))},
		{api.Benefit{Kind: api.BFalling, Wait: 1, Term: 3}, minus(rat(9*18+4*36+36, 100), rat(162*162, 10000))},
	} {
		want(t, fmt.Sprint("Spread of ", c.f), tellRatio(value.Spread(b, l, c.f)), c.wanted.String())
	}
}

// mosts are exact numbers: each that a benefit comes to in a year, or some of these, and just below and above it; below all and above all; nought.
func mosts(comes []*big.Rat, count int) []*big.Rat {
	least := new(big.Rat).SetFrac(big.NewInt(1), new(big.Int).Exp(big.NewInt(10), big.NewInt(4000), nil))
	l := []*big.Rat{rat(0, 1), rat(-1, 1), rat(1000000, 1), new(big.Rat).Neg(least), least, rat(1, 3)}
	for i, x := range someOf(random(int64(len(comes))), comes, count) {
		near := least
		if i%2 == 1 || x.Denom().BitLen() > 300 {
			near = rat(1, 1000000000)
		}
		l = append(l, x, plus(x, near), minus(x, near))
	}
	return l
}

// 13.4: the chance that W(k) is at most most.
func TestChance(t *testing.T) {
	check := func(what string, b api.Basis, l api.Life, f api.Benefit) {
		w := worldOf(b, l)
		comes := w.comesTo(f)
		for _, most := range mosts(comes, 3) {
			want(t, fmt.Sprint("Chance of ", what, " at most ", short(most.String())), tellRatio(value.Chance(b, l, f, ratioOf(most))), w.atMost(comes, most).String())
		}
	}
	r := random(134)
	eachLife(func(what string, b api.Basis, l api.Life) {
		for _, kind := range someOf(r, kinds, 3) {
			f := someOf(r, benefitsFor(kind, len(ratesOf(b.Table, l))), 1)[0]
			check(fmt.Sprint(f, " of ", what), b, l, f)
		}
	})
	eachLong(func(what string, b api.Basis, l api.Life) {
		f := someOf(r, benefitsFor(kinds[r.Intn(len(kinds))], len(ratesOf(b.Table, l))), 1)[0]
		check(fmt.Sprint(f, " of ", what), b, l, f)
	})
}

// 13.4: what comes to as much in several years is counted in all of them; more can come of an earlier death.
func TestChanceOfTheExamples(t *testing.T) {
	b, l := sample()
	b.Rate = 0
	for _, c := range []struct {
		f      api.Benefit
		most   api.Ratio
		wanted string
	}{
		{api.Benefit{Kind: api.BAssure, Term: 1}, api.Ratio{Num: "0", Den: "1"}, "9/10"},
		{api.Benefit{Kind: api.BAssure, Term: 1}, api.Ratio{Num: "1", Den: "1"}, "1/1"},
		{api.Benefit{Kind: api.BAssure, Term: 1}, api.Ratio{Num: "-1", Den: "99"}, "0/1"},
		{api.Benefit{Kind: api.BFalling, Term: 4}, api.Ratio{Num: "2", Den: "1"}, "18/25"},
		{api.Benefit{Kind: api.BFalling, Term: 4}, api.Ratio{Num: "5", Den: "2"}, "18/25"},
		{api.Benefit{Kind: api.BFalling, Term: 4}, api.Ratio{Num: "1", Den: "2"}, "0/1"},
		{api.Benefit{Kind: api.BDue, Term: 4, Sure: 2}, api.Ratio{Num: "2", Den: "1"}, "7/25"},
		{api.Benefit{Kind: api.BDue, Term: 4, Sure: 2}, api.Ratio{Num: "199", Den: "100"}, "0/1"},
		{api.Benefit{Kind: api.BDue, Term: 4, Sure: 4}, api.Ratio{Num: "4", Den: "1"}, "1/1"},
		{api.Benefit{Kind: api.BRising, Wait: 2, Term: 9}, api.Ratio{Num: "1", Den: "1"}, "16/25"},
	} {
		want(t, fmt.Sprint("Chance of ", c.f, " at most ", c.most), tellRatio(value.Chance(b, l, c.f, c.most)), c.wanted)
	}
	longest := strings.Repeat("9", api.MaxDigits)
	for num, wanted := range map[string]string{"1" + longest[1:]: "1/1", "-" + longest: "0/1"} {
		want(t, "Chance of a long most", tellRatio(value.Chance(b, l, due, api.Ratio{Num: num, Den: "1"})), wanted)
	}
	want(t, "Chance of a most just above nought", tellRatio(value.Chance(b, l, due, api.Ratio{Num: "1", Den: longest})), "1/10")
	want(t, "Chance of a most just below 1", tellRatio(value.Chance(b, l, due, api.Ratio{Num: longest[1:] + "8", Den: longest})), "1/10")
}

// 13.4, R1: most is no right exact number, behind all else that is wrong.
func TestNoMost(t *testing.T) {
	b, l := sample()
	long := "1" + strings.Repeat("0", api.MaxDigits)
	for _, c := range []struct {
		most api.Ratio
		e    api.Errno
	}{
		{api.Ratio{}, api.ErrShape}, {api.Ratio{Num: "1"}, api.ErrShape}, {api.Ratio{Num: "-0", Den: "1"}, api.ErrShape}, {api.Ratio{Num: "0", Den: "2"}, api.ErrShape},
		{api.Ratio{Num: "1", Den: "0"}, api.ErrShape}, {api.Ratio{Num: "1", Den: "-2"}, api.ErrShape}, {api.Ratio{Num: "01", Den: "2"}, api.ErrShape}, {api.Ratio{Num: "6", Den: "4"}, api.ErrShape},
		{api.Ratio{Num: long, Den: "1"}, api.ErrLong}, {api.Ratio{Num: "1", Den: long}, api.ErrLong}, {api.Ratio{Num: "10", Den: long}, api.ErrLong}, {api.Ratio{Num: long, Den: "x"}, api.ErrShape},
	} {
		want(t, fmt.Sprint("Chance at most ", short(c.most.Num)), tellRatio(value.Chance(b, l, due, c.most)), refused(c.e))
		want(t, "Chance of no basis", tellRatio(value.Chance(broken(), l, due, c.most)), refused(api.ErrForm))
		want(t, "Chance of no life", tellRatio(value.Chance(b, api.Life{}, due, c.most)), refused(api.ErrAge))
		want(t, "Chance of no benefit", tellRatio(value.Chance(b, l, api.Benefit{}, c.most)), refused(api.ErrBenefit))
	}
}
