package ratio_test

import (
	"math/big"
	"strings"
	"testing"

	"tontine/api"
	"tontine/ratio"
)

// Promise 1.2, against numbers of the library.
func TestReckoning(t *testing.T) {
	r := random(1)
	check := func(a, b api.Ratio) {
		t.Helper()
		x, y := toBig(a), toBig(b)
		want(t, "Neg", told(ratio.Neg(a)), tellBig(new(big.Rat).Neg(x)))
		want(t, "Add", told(ratio.Add(a, b)), tellBig(new(big.Rat).Add(x, y)))
		want(t, "Sub", told(ratio.Sub(a, b)), tellBig(new(big.Rat).Sub(x, y)))
		want(t, "Mul", told(ratio.Mul(a, b)), tellBig(new(big.Rat).Mul(x, y)))
		want(t, "Cmp", toldInt(ratio.Cmp(a, b)), toldInt(x.Cmp(y), api.OK))
		want(t, "Sign", toldInt(ratio.Sign(a)), toldInt(x.Sign(), api.OK))
		if y.Sign() == 0 {
			want(t, "Div", told(ratio.Div(a, b)), "error 4")
		} else {
			want(t, "Div", told(ratio.Div(a, b)), tellBig(new(big.Rat).Quo(x, y)))
		}
	}
	for _, a := range some() {
		for _, b := range some() {
			check(a, b)
		}
	}
	for _, m := range sizes {
		for _, n := range sizes {
			for range 6 {
				check(randomRatio(r, m), randomRatio(r, n))
			}
		}
	}
	a, b := randomRatio(r, api.MaxDigits), randomRatio(r, api.MaxDigits)
	check(a, b)
	check(a, a)
}

// R2: answers of just MaxDigits digits, and of one more.
func TestLongAnswers(t *testing.T) {
	most := of(nines(api.MaxDigits))
	least := of("-" + nines(api.MaxDigits))
	part := of("1/" + nines(api.MaxDigits))
	half, quarter := ten(api.MaxDigits/2), ten(api.MaxDigits/2-1)
	cases := []struct{ what, got, want string }{
		{"most - 1 + 1", told(ratio.Add(of(nines(api.MaxDigits-1)+"8"), of("1"))), most.Num},
		{"most + 1", told(ratio.Add(most, of("1"))), "error 3"},
		{"-most - 1", told(ratio.Sub(least, of("1"))), "error 3"},
		{"most - 1", told(ratio.Sub(most, of("1"))), nines(api.MaxDigits-1) + "8"},
		{"-most + 1", told(ratio.Add(least, of("1"))), "-" + nines(api.MaxDigits-1) + "8"},
		{"most - most", told(ratio.Sub(most, most)), "0"},
		{"-most", told(ratio.Neg(most)), least.Num},
		{"- -most", told(ratio.Neg(least)), most.Num},
		{"halves", told(ratio.Mul(of(half), of(quarter))), ten(api.MaxDigits - 1)},
		{"halves, one more", told(ratio.Mul(of(half), of(half))), "error 3"},
		{"halves below", told(ratio.Mul(of("1/"+half), of("-1/"+quarter))), "-1/" + ten(api.MaxDigits-1)},
		{"halves below, one more", told(ratio.Mul(of("1/"+half), of("1/"+half))), "error 3"},
		{"by halves", told(ratio.Div(of("1/"+half), of(quarter))), "1/" + ten(api.MaxDigits-1)},
		{"by halves, one more", told(ratio.Div(of("1/"+half), of(half))), "error 3"},
		{"part by part", told(ratio.Div(part, part)), "1"},
		{"part times most", told(ratio.Mul(part, most)), "1"},
		{"part plus part", told(ratio.Add(part, part)), "2/" + part.Den},
		{"part plus half", told(ratio.Add(part, of("1/2"))), "error 3"},
		{"long on the way", told(ratio.Sum([]api.Ratio{most, of("1"), of("-1")})), most.Num},
		{"long in the end", told(ratio.Sum([]api.Ratio{most, of("1"), of("1/2")})), "error 3"},
		{"long by nought", told(ratio.Div(most, of("0"))), "error 4"},
	}
	for _, c := range cases {
		want(t, c.what, c.got, c.want)
	}
}

// Promise 1.2: sums of many, in any order.
func TestSum(t *testing.T) {
	r := random(2)
	for _, digits := range sizes[:9] {
		for _, n := range []int{0, 1, 2, 3, 7, 50} {
			l, sum := make([]api.Ratio, n), new(big.Rat)
			for i := range l {
				l[i] = randomRatio(r, digits)
				sum.Add(sum, toBig(l[i]))
			}
			want(t, "Sum", told(ratio.Sum(l)), tellBig(sum))
			r.Shuffle(n, func(i, j int) { l[i], l[j] = l[j], l[i] })
			want(t, "Sum of the same in another order", told(ratio.Sum(l)), tellBig(sum))
		}
	}
	l, sum := make([]api.Ratio, api.MaxItems), new(big.Rat)
	for i := range l {
		l[i] = fromBig(big.NewRat(1, int64(i+1)))
		sum.Add(sum, toBig(l[i]))
	}
	want(t, "Sum of the harmonic row", told(ratio.Sum(l)), tellBig(sum))
}

// links are differences 1/c[i] - 1/c[i+1], shuffled, and their sum, which is short, though sums of some of them are not.
func links(n, digits int) ([]api.Ratio, *big.Rat) {
	r := random(3)
	first := new(big.Rat).SetFrac(big.NewInt(1), randomInt(r, digits))
	last, l := first, []api.Ratio{}
	for range n {
		next := new(big.Rat).SetFrac(big.NewInt(1), randomInt(r, digits))
		l = append(l, fromBig(new(big.Rat).Sub(last, next)))
		last = next
	}
	r.Shuffle(n, func(i, j int) { l[i], l[j] = l[j], l[i] })
	return l, new(big.Rat).Sub(first, last)
}

// Promise 1.2, R2: what is reckoned on the way may be much longer than what is answered.
func TestSumLongOnTheWay(t *testing.T) {
	l, sum := links(60, api.MaxDigits/2-1)
	want(t, "Sum of links", told(ratio.Sum(l)), tellBig(sum))
	want(t, "Sum of links and a third", told(ratio.Sum(append(l, of("-1/3")))), tellBig(new(big.Rat).Sub(sum, big.NewRat(1, 3))))
	want(t, "Sum of links, one left out", told(ratio.Sum(l[1:])), "error 3")
}

// Promise 1.2, P1: sums that come to nothing short are told soon.
func TestSumTooLong(t *testing.T) {
	r := random(4)
	l := make([]api.Ratio, 200)
	for i := range l {
		l[i] = fromBig(new(big.Rat).SetFrac(randomInt(r, api.MaxDigits), randomInt(r, api.MaxDigits)))
	}
	want(t, "Sum", told(ratio.Sum(l)), "error 3")
	for i := range 100 {
		l[199-i], _ = ratio.Neg(l[i])
	}
	want(t, "Sum of what cancels out", told(ratio.Sum(l)), "0")
	want(t, "Sum of what nearly cancels out", told(ratio.Sum(l[:199])), told(ratio.Neg(l[199])))
}

// Promise 1.2: differences of a high order of 1 by x are very near to nought, but are not.
func TestSumNearToAShortOne(t *testing.T) {
	x, _ := new(big.Int).SetString(ten(api.MaxDigits-1), 10)
	l := []api.Ratio{}
	const order = 8
	for j := range int64(order + 1) {
		part := new(big.Rat).SetFrac(new(big.Int).Binomial(order, j), new(big.Int).Add(x, big.NewInt(j)))
		if j%2 == 1 {
			part.Neg(part)
		}
		l = append(l, fromBig(part))
	}
	want(t, "Sum near to nought", told(ratio.Sum(l)), "error 3")
	want(t, "Sum near to -2/7", told(ratio.Sum(append(l, of("-2/7")))), "error 3")
	for _, a := range l {
		minus, _ := ratio.Neg(a)
		l = append(l, minus)
	}
	want(t, "Sum that is 5/3", told(ratio.Sum(append(l, of("5/3")))), "5/3")
}

// Promise 1.3.
func TestPow(t *testing.T) {
	cases := []struct {
		a    string
		n    int
		want string
	}{
		{"-2/3", -3, "-27/8"}, {"-2/3", 3, "-8/27"}, {"-2/3", 4, "16/81"}, {"-2/3", -4, "81/16"}, {"-2/3", 1, "-2/3"}, {"-2/3", -1, "-3/2"},
		{"0", 0, "1"}, {"5", 0, "1"}, {"-7/2", 0, "1"}, {"0", 1, "0"}, {"0", ratio.MaxPower, "0"}, {"0", -1, "error 4"}, {"0", -ratio.MaxPower, "error 4"},
		{"1", ratio.MaxPower, "1"}, {"-1", ratio.MaxPower, "1"}, {"-1", ratio.MaxPower - 1, "-1"}, {"-1", -ratio.MaxPower + 1, "-1"}, {"1", -ratio.MaxPower, "1"},
		{"2", ratio.MaxPower + 1, "error 1"}, {"2", -ratio.MaxPower - 1, "error 1"}, {"0", -ratio.MaxPower - 1, "error 1"}, {"0", ratio.MaxPower + 1, "error 1"}, {"1", 1 << 62, "error 1"}, {"1", -1 << 63, "error 1"},
		{"10", api.MaxDigits - 1, ten(api.MaxDigits - 1)}, {"10", api.MaxDigits, "error 3"}, {"10", -api.MaxDigits + 1, "1/" + ten(api.MaxDigits-1)}, {"10", -api.MaxDigits, "error 3"},
		{"1/10", api.MaxDigits, "error 3"}, {"-1/10", 1 - api.MaxDigits, "-" + ten(api.MaxDigits-1)},
		{nines(api.MaxDigits), 1, nines(api.MaxDigits)}, {nines(api.MaxDigits), 2, "error 3"}, {nines(api.MaxDigits), ratio.MaxPower, "error 3"}, {"1/" + nines(api.MaxDigits), -1, nines(api.MaxDigits)}, {"1/" + nines(api.MaxDigits), 0, "1"},
		{nines(api.MaxDigits / 2), 2, nines(api.MaxDigits/2-1) + "8" + strings.Repeat("0", api.MaxDigits/2-1) + "1"},
	}
	for _, c := range cases {
		want(t, "Pow of "+shortened(c.a), told(ratio.Pow(of(c.a), c.n)), c.want)
	}
	for _, a := range []string{"2", "-3", "2/3", "-9/7", "12345/67"} {
		for _, n := range []int{2, 3, 17, 64, 255, 1000, -2, -63, -500, ratio.MaxPower, -ratio.MaxPower} {
			x, m := toBig(of(a)), n
			if n < 0 {
				x, m = x.Inv(x), -n
			}
			power := new(big.Rat).SetFrac(new(big.Int).Exp(x.Num(), big.NewInt(int64(m)), nil), new(big.Int).Exp(x.Denom(), big.NewInt(int64(m)), nil))
			want(t, "Pow", told(ratio.Pow(of(a), n)), tellBig(power))
		}
	}
}

// Promise 1.9.
func TestField(t *testing.T) {
	r, must := random(5), mustRatio(t)
	for _, digits := range []int{1, 2, 19, 40, 200} {
		for range 40 {
			a, b, c := randomRatio(r, digits), randomRatio(r, digits), randomRatio(r, digits)
			same := func(what string, x, y api.Ratio) {
				t.Helper()
				want(t, what, told(x, api.OK), told(y, api.OK))
			}
			same("a + b", must(ratio.Add(a, b)), must(ratio.Add(b, a)))
			same("a b", must(ratio.Mul(a, b)), must(ratio.Mul(b, a)))
			same("a + b + c", must(ratio.Add(must(ratio.Add(a, b)), c)), must(ratio.Add(a, must(ratio.Add(b, c)))))
			same("a b c", must(ratio.Mul(must(ratio.Mul(a, b)), c)), must(ratio.Mul(a, must(ratio.Mul(b, c)))))
			same("a (b + c)", must(ratio.Mul(a, must(ratio.Add(b, c)))), must(ratio.Add(must(ratio.Mul(a, b)), must(ratio.Mul(a, c)))))
			same("a - a", must(ratio.Add(a, must(ratio.Neg(a)))), of("0"))
			same("a - b", must(ratio.Sub(a, b)), must(ratio.Add(a, must(ratio.Neg(b)))))
			same("a + b + c as a sum", must(ratio.Sum([]api.Ratio{a, b, c})), must(ratio.Sum([]api.Ratio{c, a, b})))
			if a.Num != "0" {
				same("a by a", must(ratio.Mul(a, must(ratio.Div(of("1"), a)))), of("1"))
				same("b by a", must(ratio.Mul(must(ratio.Div(b, a)), a)), b)
			}
		}
	}
}

// Promise 1.10.
func TestOrder(t *testing.T) {
	r := random(6)
	cmp := func(a, b api.Ratio) int {
		n, e := ratio.Cmp(a, b)
		if e != api.OK {
			t.Fatalf("Cmp: %v", e)
		}
		return n
	}
	must := mustRatio(t)
	for range 300 {
		digits := sizes[r.Intn(9)]
		a, b, c := randomRatio(r, digits), randomRatio(r, digits), randomRatio(r, digits)
		if n := cmp(a, b); n != -cmp(b, a) || (n == 0) != (a == b) || n < -1 || n > 1 {
			t.Errorf("of %v and %v not just one holds", a, b)
		}
		if cmp(a, b) <= 0 && cmp(b, c) <= 0 && cmp(a, c) > 0 {
			t.Errorf("%v, %v, %v: the order does not go on", a, b, c)
		}
		if cmp(must(ratio.Add(a, c)), must(ratio.Add(b, c))) != cmp(a, b) {
			t.Errorf("%v, %v, %v: a sum changes the order", a, b, c)
		}
		if cmp(c, of("0")) > 0 && cmp(must(ratio.Mul(a, c)), must(ratio.Mul(b, c))) != cmp(a, b) {
			t.Errorf("%v, %v, %v: a product changes the order", a, b, c)
		}
	}
}
