package ratio_test

import (
	"math/big"
	"testing"

	"tontine/api"
	"tontine/ratio"
)

// Promise 1.7.
func TestBetween(t *testing.T) {
	long := nines(api.MaxDigits)
	cases := []struct{ a, b, want string }{
		{"3/10", "2/5", "1/3"}, {"-5/2", "7", "0"}, {"31/10", "9", "4"}, {"3", "9", "3"}, {"-9", "-31/10", "-4"}, {"-9", "-3", "-3"}, {"-2/5", "-3/10", "-1/3"},
		{"0", "0", "0"}, {"0", "5", "0"}, {"-5", "0", "0"}, {"1/3", "1/3", "1/3"}, {"-22/7", "-22/7", "-22/7"}, {"1/3", "1/2", "1/2"}, {"1/3", "49/100", "1/3"}, {"17/50", "49/100", "2/5"}, {"1/2", "1", "1"}, {"3/2", "8/5", "3/2"}, {"314159/100000", "3927/1250", "355/113"},
		{"2", "1", "error 1"}, {"1/2", "1/3", "error 1"}, {"1", "-1", "error 1"}, {"0", "-1/" + long, "error 1"}, {"-1/3", "-1/2", "error 1"},
		{long, long, long}, {"-" + long, long, "0"}, {"1/" + long, long, "1"}, {"1/" + long, "1/" + long, "1/" + long}, {"1/" + long, "1/" + nines(api.MaxDigits-1), "1/" + nines(api.MaxDigits-1)},
	}
	for _, c := range cases {
		want(t, "Between of "+shortened(c.a)+" and "+shortened(c.b), told(ratio.Between(of(c.a), of(c.b))), c.want)
	}
}

// simplestBySearch goes through denominators from 1 on, and of each through numerators by their size.
func simplestBySearch(a, b *big.Rat) *big.Rat {
	for den := int64(1); ; den++ {
		for size := int64(0); size <= 11*den; size++ {
			for _, num := range []int64{size, -size} {
				if x := big.NewRat(num, den); a.Cmp(x) <= 0 && x.Cmp(b) <= 0 {
					return x
				}
			}
		}
	}
}

// Promises 1.7, 1.13: against a search through all.
func TestBetweenIsSimplest(t *testing.T) {
	for _, a := range some() {
		for _, b := range some() {
			if x, y := toBig(a), toBig(b); x.Cmp(y) <= 0 {
				want(t, "Between", told(ratio.Between(a, b)), tellBig(simplestBySearch(x, y)))
			}
		}
	}
	r := random(41)
	for range 300 {
		x := big.NewRat(r.Int63n(400)-200, 20+r.Int63n(60))
		y := new(big.Rat).Add(x, big.NewRat(r.Int63n(20), 1+r.Int63n(900)))
		want(t, "Between", told(ratio.Between(fromBig(x), fromBig(y))), tellBig(simplestBySearch(x, y)))
	}
}

// Promise 1.7: long numbers with many terms in common. What lies within a tenth of 1 by the square of a denominator is not simpler.
func TestBetweenLong(t *testing.T) {
	for _, n := range []int{10, 1000, 9500} {
		x := toBig(row(n))
		off := new(big.Rat).SetFrac(big.NewInt(1), new(big.Int).Mul(x.Denom(), x.Denom()))
		off.Mul(off, big.NewRat(1, 10))
		a, b := new(big.Rat).Sub(x, off), new(big.Rat).Add(x, off)
		want(t, "Between", told(ratio.Between(fromBig(a), fromBig(b))), tellBig(x))
		want(t, "Between below nought", told(ratio.Between(fromBig(b.Neg(b)), fromBig(a.Neg(a)))), tellBig(x.Neg(x)))
	}
	want(t, "Between of the longest row", told(ratio.Between(row(19500), row(19500))), told(row(19500), api.OK))
}

// Promise 1.8.
func TestNear(t *testing.T) {
	long := nines(api.MaxDigits)
	cases := []struct {
		a    string
		most int
		want string
	}{
		{"355/113", 10, "22/7"}, {"355/113", 112, "333/106"}, {"355/113", 113, "355/113"}, {"355/113", ratio.MaxNear, "355/113"}, {"-355/113", 10, "-22/7"},
		{"1/2", 1, "0"}, {"-1/2", 1, "-1"}, {"3/2", 1, "1"}, {"-3/2", 1, "-2"}, {"1/3", 1, "0"}, {"2/3", 1, "1"}, {"-1/3", 1, "0"}, {"-2/3", 1, "-1"},
		{"1/4", 2, "0"}, {"3/4", 2, "1"}, {"-1/4", 2, "0"}, {"-3/4", 2, "-1"}, {"5/12", 3, "1/2"}, {"7/12", 3, "1/2"}, {"-5/12", 3, "-1/2"}, {"5/4", 2, "1"}, {"7/4", 2, "2"},
		{"0", 1, "0"}, {"7", 1, "7"}, {"-7", ratio.MaxNear, "-7"}, {"1/4096", ratio.MaxNear, "1/4096"}, {"1/4097", ratio.MaxNear, "1/4096"}, {"1/8191", ratio.MaxNear, "1/4096"}, {"1/8192", ratio.MaxNear, "0"}, {"1/8193", ratio.MaxNear, "0"}, {"-1/8192", ratio.MaxNear, "0"}, {"8191/8192", ratio.MaxNear, "1"},
		{long + "/" + ten(api.MaxDigits-1), ratio.MaxNear, "10"}, {"1/" + long, ratio.MaxNear, "0"}, {"-" + long, 1, "-" + long}, {"-" + long + "/2", 1, "-5" + ten(api.MaxDigits - 1)[1:]}, {long + "/2", 1, "4" + nines(api.MaxDigits-1)},
		{"1", 0, "error 1"}, {"1", -1, "error 1"}, {"1", ratio.MaxNear + 1, "error 1"}, {"1", 1 << 62, "error 1"}, {"1", -1 << 63, "error 1"},
	}
	for _, c := range cases {
		want(t, "Near of "+shortened(c.a), told(ratio.Near(of(c.a), c.most)), c.want)
	}
}

// nearestBySearch goes through all denominators, from the least on, and holds both neighbours against what was found.
func nearestBySearch(a *big.Rat, most int) *big.Rat {
	var found, apart *big.Rat
	for den := range most {
		d := big.NewInt(int64(den + 1))
		low := new(big.Int).Div(new(big.Int).Mul(a.Num(), d), a.Denom())
		for range 2 {
			x := new(big.Rat).SetFrac(low, d)
			off := new(big.Rat).Abs(new(big.Rat).Sub(x, a))
			if found == nil || off.Cmp(apart) < 0 {
				found, apart = x, off
			}
			low = new(big.Int).Add(low, big.NewInt(1))
		}
	}
	return found
}

// Promises 1.8, 1.13: against a search through all.
func TestNearIsNearest(t *testing.T) {
	for p := int64(-30); p <= 30; p++ {
		for q := int64(1); q <= 30; q++ {
			a := big.NewRat(p, q)
			for most := 1; most <= 12; most++ {
				want(t, "Near", told(ratio.Near(fromBig(a), most)), tellBig(nearestBySearch(a, most)))
			}
		}
	}
	r := random(42)
	for range 40 {
		a := randomRatio(r, sizes[r.Intn(10)])
		for _, most := range []int{1, 7, 100, 500} {
			want(t, "Near", told(ratio.Near(a, most)), tellBig(nearestBySearch(toBig(a), most)))
		}
	}
	a := randomRatio(r, 100)
	want(t, "Near", told(ratio.Near(a, ratio.MaxNear)), tellBig(nearestBySearch(toBig(a), ratio.MaxNear)))
}
