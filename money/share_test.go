package money_test

import (
	"fmt"
	"math"
	"math/big"
	"math/rand"
	"slices"
	"testing"

	"tontine/api"
	"tontine/money"
)

// 6.2: amounts of all signs, equal rests, weights that are nought, one weight.
func TestShare(t *testing.T) {
	for _, c := range []struct {
		total           int
		weights, wanted string
	}{
		{10, "1", "[10]"}, {-10, "3/7", "[-10]"}, {0, "5", "[0]"}, {most, "1/1000", "[1000000000000000]"}, {-most, "2", "[-1000000000000000]"},
		{0, "1 2 3", "[0 0 0]"}, {1, "1 2 3", "[0 0 1]"}, {2, "1 1 1", "[1 1 0]"}, {-2, "1 1 1", "[-1 -1 0]"}, {-100, "1 2 3", "[-17 -33 -50]"},
		{3, "1/2 1/3 1/6", "[2 1 0]"}, {7, "1/2 1/3 1/6", "[4 2 1]"}, {60, "1/2 1/3 1/6", "[30 20 10]"},
		{5, "0 1 0 1", "[0 3 0 2]"}, {1, "0 0 1", "[0 0 1]"}, {-5, "1 0 1 1", "[-2 0 -2 -1]"}, {3, "1 0 0 0", "[3 0 0 0]"},
		{1, "1 1 1 1", "[1 0 0 0]"}, {3, "1 1 1 1", "[1 1 1 0]"}, {1, "1 2 2", "[0 1 0]"}, {1, "2 1 2", "[1 0 0]"}, {9, "1 2 2 1", "[2 3 3 1]"},
		{most, "1 1", "[500000000000000 500000000000000]"}, {most, "1 1 1", "[333333333333334 333333333333333 333333333333333]"}, {-most, "1 2", "[-333333333333333 -666666666666667]"},
	} {
		want(t, fmt.Sprint("Share ", c.total, " by ", c.weights), tellList(money.Share(c.total, list(c.weights))), c.wanted)
	}
}

// shares is what chapter 6 says, reckoned by the library: pennies that are left go out one by one to the greatest rest of those who have not yet got one.
func shares(total int, weights []*big.Rat) []int {
	sum := new(big.Rat)
	for _, w := range weights {
		sum.Add(sum, w)
	}
	size, sign := int64(total), 1
	if total < 0 {
		size, sign = -size, -1
	}
	l := make([]int, len(weights))
	rests := make([]*big.Rat, len(weights))
	left := size
	for i, w := range weights {
		quota := new(big.Rat).Mul(big.NewRat(size, 1), new(big.Rat).Quo(w, sum))
		n := floorOf(quota)
		l[i], rests[i] = int(n.Int64()), quota.Sub(quota, new(big.Rat).SetInt(n))
		left -= n.Int64()
	}
	for ; left > 0; left-- {
		best := 0
		for i := range rests {
			if rests[i].Cmp(rests[best]) > 0 {
				best = i
			}
		}
		l[best]++
		rests[best] = big.NewRat(-1, 1)
	}
	for i := range l {
		l[i] *= sign
	}
	return l
}

// anyWeights are some weights, not all nought, many of them alike.
func anyWeights(r *rand.Rand, n, digits int) []*big.Rat {
	for {
		l := make([]*big.Rat, n)
		sum := new(big.Rat)
		for i := range l {
			l[i] = new(big.Rat).Abs(anyRatio(r, digits))
			if i > 0 && r.Intn(3) == 0 {
				l[i] = l[r.Intn(i)]
			}
			sum.Add(sum, l[i])
		}
		if sum.Sign() > 0 {
			return l
		}
	}
}

func fromBigs(l []*big.Rat) []api.Ratio {
	var out []api.Ratio
	for _, x := range l {
		out = append(out, fromBig(x))
	}
	return out
}

// 6.2, 6.6: any shares, against the library.
func TestShareOfAnyWeights(t *testing.T) {
	r := random(62)
	for i := range 2500 {
		total, weights := anyAmount(r), anyWeights(r, 1+r.Intn(12), 1+i%4*i%17)
		if i%5 == 0 {
			weights = anyWeights(r, 1+r.Intn(12), 1)
		}
		got, e := money.Share(total, fromBigs(weights))
		want(t, fmt.Sprint("Share ", total, " by ", weights), tellList(got, e), fmt.Sprint(shares(total, weights)))
		checkShares(t, total, weights, got)
	}
}

// checkShares holds shares to 6.6.
func checkShares(t *testing.T, total int, weights []*big.Rat, got []int) {
	t.Helper()
	if len(got) != len(weights) {
		t.Fatalf("%d shares of %d weights", len(got), len(weights))
	}
	all, sum := 0, new(big.Rat)
	for i := range got {
		all += got[i]
		sum.Add(sum, weights[i])
	}
	if all != total {
		t.Errorf("shares of %d sum to %d", total, all)
	}
	for i := range got {
		quota := new(big.Rat).Mul(big.NewRat(int64(total), 1), new(big.Rat).Quo(weights[i], sum))
		away := new(big.Rat).Sub(big.NewRat(int64(got[i]), 1), quota)
		if away.Abs(away).Cmp(big.NewRat(1, 1)) >= 0 {
			t.Errorf("share %d of the quota %s", got[i], quota)
		}
		for j := range got {
			if total >= 0 && weights[i].Cmp(weights[j]) > 0 && got[i] < got[j] {
				t.Errorf("share %d of the weight %s, %d of %s", got[i], weights[i], got[j], weights[j])
			}
		}
	}
}

// 6.2: rests that differ far behind the point only, in either order.
func TestShareOfCloseRests(t *testing.T) {
	little := "1" + ten(4000)[1:4000] + "1/" + ten(4000) // 1 and 10 to the -4000
	want(t, "Share", tellList(money.Share(1, list("1 "+little+" 1"))), "[0 1 0]")
	want(t, "Share", tellList(money.Share(2, list("1 "+little+" 1"))), "[1 1 0]")
	want(t, "Share", tellList(money.Share(-1, list("1 1 "+little))), "[0 0 -1]")
	// Neighbours among the quotients of Fibonacci's numbers differ by 1 by both denominators, and the sum is 2: no less could tell the rests apart.
	a, b, c := big.NewInt(1), big.NewInt(1), big.NewInt(2)
	for n := range 400 {
		one := big.NewRat(1, 1)
		x, y := new(big.Rat).SetFrac(a, b), new(big.Rat).SetFrac(b, c)
		weights := []*big.Rat{x, new(big.Rat).Sub(one, x), y, new(big.Rat).Sub(one, y)}
		got, e := money.Share(1, fromBigs(weights))
		want(t, fmt.Sprint("Fibonacci's numbers ", n), tellList(got, e), fmt.Sprint(shares(1, weights)))
		a, b, c = b, c, new(big.Int).Add(b, c)
	}
}

// 6.2: weights of many digits, whose quotas are longer still.
func TestShareOfLongWeights(t *testing.T) {
	r := random(63)
	for i := range 12 {
		den := new(big.Int).Rand(r, bigTen(api.MaxDigits-2))
		var weights []*big.Rat
		for range 2 + r.Intn(5) {
			weights = append(weights, new(big.Rat).SetFrac(new(big.Int).Rand(r, den), den))
		}
		total := []int{most, -most, 7, 1, 123456789}[i%5]
		got, e := money.Share(total, fromBigs(weights))
		want(t, "Share by long weights", tellList(got, e), fmt.Sprint(shares(total, weights)))
	}
	big1, big2 := of(nines(api.MaxDigits-1)), of("8"+nines(api.MaxDigits-1))
	want(t, "Share by great weights", tellList(money.Share(10, []api.Ratio{big1, big2})), "[1 9]")
}

// 6.2: the sum up to any place may not be too long, even if it is shorter behind it.
func TestShareOfLongSums(t *testing.T) {
	p, q := ten(2100)[:2100]+"1", "2"+ten(2099)[1:2099]+"7" // two denominators without a common divisor
	if new(big.Int).GCD(nil, nil, toBig(of(p)).Num(), toBig(of(q)).Num()).Cmp(big.NewInt(1)) != 0 {
		t.Fatal("a common divisor")
	}
	pLess := fromBig(new(big.Rat).Sub(big.NewRat(1, 1), toBig(of("1/"+p))))
	qLess := fromBig(new(big.Rat).Sub(big.NewRat(1, 1), toBig(of("1/"+q))))
	one := func(d string) api.Ratio { return of("1/" + d) }
	long := api.ErrLong.Error()
	for _, c := range []struct {
		weights []api.Ratio
		wanted  string
	}{
		{[]api.Ratio{one(p), pLess, one(q), qLess}, "[0 5 0 5]"},
		{[]api.Ratio{one(p), one(q), pLess, qLess}, long},
		{[]api.Ratio{one(p), one(q)}, long},
		{[]api.Ratio{one(p), pLess, one(q)}, "[0 10 0]"},
		{[]api.Ratio{of(nines(api.MaxDigits)), of("1")}, long},
		{[]api.Ratio{of(nines(api.MaxDigits)), of("0")}, "[10 0]"},
		{[]api.Ratio{of(nines(api.MaxDigits-1) + "8"), of("1")}, "[10 0]"},
		{[]api.Ratio{of("1/" + nines(api.MaxDigits)), of("1/2")}, long},
		{[]api.Ratio{of("1/" + nines(api.MaxDigits)), of("1/" + nines(api.MaxDigits))}, "[5 5]"},
		{[]api.Ratio{one(p), one(q), of("-1")}, api.ErrWeights.Error()},
		{[]api.Ratio{one(p), one(q), of("2/2")}, api.ErrShape.Error()},
	} {
		want(t, "Share by weights with long sums", tellList(money.Share(10, c.weights)), c.wanted)
	}
	want(t, "Share of nought by weights with long sums", tellList(money.Share(0, []api.Ratio{one(p), one(q)})), long)
}

// 6.2, R1, R3: wrong arguments, and which of two errors comes first.
func TestShareOfWrongOnes(t *testing.T) {
	weights, money1, long := api.ErrWeights.Error(), api.ErrMoney.Error(), api.ErrLong.Error()
	for _, s := range []string{"", "0", "0 0 0", "-1", "1 -1", "-1 5", "1 2 -1/3 4", "-1 0"} {
		want(t, "Share by "+s, tellList(money.Share(5, list(s))), weights)
		want(t, "Share of nought by "+s, tellList(money.Share(0, list(s))), weights)
		want(t, "Share of no amount by "+s, tellList(money.Share(most+1, list(s))), money1)
	}
	want(t, "Share by none", tellList(money.Share(5, nil)), weights)
	for bad, e := range wrong() {
		for _, l := range [][]api.Ratio{{bad}, {of("1"), bad}, {of("-1"), bad}, {of("0"), bad, of("-1")}, {bad, of("2/2"), of(ten(api.MaxDigits))}} {
			want(t, "Share by a wrong weight", tellList(money.Share(5, l)), e.Error())
			want(t, "Share of no amount by a wrong weight", tellList(money.Share(-most-1, l)), money1)
		}
	}
	want(t, "Share by two wrong weights", tellList(money.Share(5, list("1 2/4 "+ten(api.MaxDigits)))), api.ErrShape.Error())
	want(t, "Share by two wrong weights", tellList(money.Share(5, list("1 "+ten(api.MaxDigits)+" 2/4"))), long)
	for _, r := range []api.Ratio{of("1"), of("0"), of("-1"), of("x")} {
		want(t, "Share by too many", tellList(money.Share(5, repeated(r, api.MaxItems+1))), long)
		want(t, "Share of no amount by too many", tellList(money.Share(most+1, repeated(r, api.MaxItems+1))), money1)
	}
	for _, p := range noAmounts {
		want(t, "Share of no amount", tellList(money.Share(p, list("1 1"))), money1)
		want(t, "Parts of no amount", tellList(money.Parts(p, 3)), money1)
		want(t, "no parts of no amount", tellList(money.Parts(p, 0)), money1)
	}
	for _, n := range []int{0, -1, api.MaxItems + 1, math.MinInt, math.MaxInt} {
		want(t, fmt.Sprint(n, " parts"), tellList(money.Parts(7, n)), api.ErrRange.Error())
	}
}

// 6.2, 6.6: parts differ by a penny at most, the greater ones first; they are what Share makes of weights that are all one.
func TestParts(t *testing.T) {
	want(t, "1 part", tellList(money.Parts(-8, 1)), "[-8]")
	want(t, "parts below nought", tellList(money.Parts(-7, 3)), "[-3 -2 -2]")
	want(t, "parts of nought", tellList(money.Parts(0, 4)), "[0 0 0 0]")
	want(t, "parts of less than there are", tellList(money.Parts(2, 4)), "[1 1 0 0]")
	for _, n := range []int{1, 2, 3, 7, 100, api.MaxItems - 1, api.MaxItems} {
		for _, total := range []int{0, 1, 5, 4095, 4096, 4097, 123456789, most, -most, -1, -4097} {
			got, e := money.Parts(total, n)
			var wanted []int
			for i := range n {
				part := total / n
				if i < max(total, -total)%n {
					part += max(min(total, 1), -1)
				}
				wanted = append(wanted, part)
			}
			want(t, fmt.Sprint(n, " parts of ", total), tellList(got, e), fmt.Sprint(wanted))
		}
	}
	for _, total := range []int{100, -100, most} {
		parts, _ := money.Parts(total, 7)
		byWeights, _ := money.Share(total, repeated(of("3/5"), 7))
		if !slices.Equal(parts, byWeights) {
			t.Errorf("parts %v, shares %v", parts, byWeights)
		}
	}
}

// 6.2: of many equal rests the earlier ones come first, however many others lie between them.
func TestShareOfManyEqualRests(t *testing.T) {
	r := random(69)
	for i := range 60 {
		var weights []*big.Rat
		for range 20 + r.Intn(100) {
			weights = append(weights, big.NewRat(int64(1+r.Intn(4)), 2))
		}
		total := r.Intn(500) - 250
		got, e := money.Share(total, fromBigs(weights))
		want(t, fmt.Sprint("Share ", i, " of ", total, " by many"), tellList(got, e), fmt.Sprint(shares(total, weights)))
	}
}

// R3: just MaxItems weights may be.
func TestShareByManyWeights(t *testing.T) {
	var weights []*big.Rat
	for i := range api.MaxItems {
		weights = append(weights, big.NewRat(int64(i%7), 3))
	}
	got, e := money.Share(most, fromBigs(weights))
	if e != api.OK {
		t.Fatal(e)
	}
	checkShares(t, most, weights, got)
}
