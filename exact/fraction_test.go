package exact

import (
	"math"
	"math/big"
	"testing"

	"tontine/api"
	"tontine/whole"
)

// small are all fractions of small numbers, in lowest terms.
func small() []*big.Rat {
	var l []*big.Rat
	for p := int64(-9); p <= 9; p++ {
		for q := int64(1); q <= 8; q++ {
			if x := big.NewRat(p, q); x.Denom().Int64() == q {
				l = append(l, x)
			}
		}
	}
	return l
}

func ofBig(x *big.Rat) Fraction {
	return Fraction{x.Sign() < 0, whole.Parse(new(big.Int).Abs(x.Num()).String()), whole.Parse(x.Denom().String())}
}

// told is a fraction as it stands, not made shorter.
func told(f Fraction) string {
	return WithSign(f.Neg, f.Num.Text()) + "/" + f.Den.Text()
}

// What is reckoned of fractions in lowest terms is right, and in lowest terms.
func TestReckoning(t *testing.T) {
	for _, x := range small() {
		f := ofBig(x)
		same(t, "itself", told(f), x.String())
		same(t, "negated", told(f.Negated()), new(big.Rat).Neg(x).String())
		if f.Sign() != x.Sign() {
			t.Errorf("sign of %s: %d", x, f.Sign())
		}
		if x.Sign() != 0 {
			same(t, "inverse", told(f.Inverse()), new(big.Rat).Inv(x).String())
		}
		power := big.NewRat(1, 1)
		for n := range 5 {
			same(t, "power", told(f.Power(n)), power.String())
			if x.Sign() != 0 {
				same(t, "power", told(f.Power(-n)), new(big.Rat).Inv(power).String())
			}
			power.Mul(power, x)
		}
		for _, y := range small() {
			g := ofBig(y)
			same(t, "plus", told(f.Plus(g)), new(big.Rat).Add(x, y).String())
			same(t, "times", told(f.Times(g)), new(big.Rat).Mul(x, y).String())
			if f.Cmp(g) != x.Cmp(y) {
				t.Errorf("%s and %s: %d", x, y, f.Cmp(g))
			}
		}
	}
}

func same(t *testing.T, what, got, want string) {
	t.Helper()
	if got != want {
		t.Errorf("%s: %s, want %s", what, got, want)
	}
}

// Whole numbers next to a fraction: the lower one and what is left, and the one that each way chooses.
func TestWholeOnes(t *testing.T) {
	for _, c := range []struct {
		num, den    int64
		floor, rest string
		byWays      string // floor, ceil, down, up, half up, half even
	}{
		{5, 2, "2/1", "1/2", "2 3 2 3 3 2"},
		{-5, 2, "-3/1", "1/2", "-3 -2 -2 -3 -3 -2"},
		{7, 2, "3/1", "1/2", "3 4 3 4 4 4"},
		{-7, 2, "-4/1", "1/2", "-4 -3 -3 -4 -4 -4"},
		{1, 3, "0/1", "1/3", "0 1 0 1 0 0"},
		{-1, 3, "-1/1", "2/3", "-1 0 0 -1 0 0"},
		{2, 3, "0/1", "2/3", "0 1 0 1 1 1"},
		{-2, 3, "-1/1", "1/3", "-1 0 0 -1 -1 -1"},
		{-4, 1, "-4/1", "0/1", "-4 -4 -4 -4 -4 -4"},
		{0, 1, "0/1", "0/1", "0 0 0 0 0 0"},
	} {
		f := ofBig(big.NewRat(c.num, c.den))
		floor, rest := f.Floor()
		same(t, "floor", told(floor), c.floor)
		same(t, "rest", told(rest), c.rest)
		doubled := Fraction{f.Neg, f.Num.ShiftLeft(1), f.Den.ShiftLeft(1)} // not in lowest terms
		for _, g := range []Fraction{f, doubled} {
			got := ""
			for way := api.RoundFloor; way <= api.RoundHalfEven; way++ {
				n := g.Round(way)
				same(t, "what is rounded is whole", n.Den.Text(), "1")
				got += " " + WithSign(n.Neg, n.Num.Text())
			}
			same(t, told(g)+", rounded", got[1:], c.byWays)
		}
	}
}

func TestOfInt(t *testing.T) {
	for n, wanted := range map[int]string{0: "0/1", 7: "7/1", -7: "-7/1", math.MaxInt: "9223372036854775807/1", math.MinInt: "-9223372036854775808/1"} {
		same(t, "OfInt", told(OfInt(n)), wanted)
	}
	same(t, "OfWhole", told(OfWhole(true, whole.Nat{})), "0/1")
}

func TestLowest(t *testing.T) {
	same(t, "6 by 4", told(Lowest(true, whole.Of(6), whole.Of(4))), "-3/2")
	same(t, "0 by 4", told(Lowest(true, whole.Nat{}, whole.Of(4))), "0/1")
	same(t, "8 by 4", told(Lowest(false, whole.Of(8), whole.Of(4))), "2/1")
}

// R2: what has too many digits, above or below, told without writing the number.
func TestIsLong(t *testing.T) {
	one := whole.Of(1)
	most := whole.Of(10).Pow(api.MaxDigits).Sub(one)
	for _, c := range []struct {
		n    whole.Nat
		long bool
	}{
		{one, false}, {whole.Nat{}, false}, {most, false}, {most.Add(one), true}, {most.Mul(most), true},
		{one.ShiftLeft(fewBits), false}, {one.ShiftLeft(fewBits - 1), false}, {one.ShiftLeft(MostBits), true}, {one.ShiftLeft(MostBits - 1), true},
		{one.ShiftLeft(13606), false}, {one.ShiftLeft(13607), true}, // 10 to the 4096 lies between them
	} {
		f := OfWhole(true, c.n)
		if f.IsLong() != c.long {
			t.Errorf("%d bits above: %v", c.n.BitLen(), f.IsLong())
		}
		if _, e := f.Ratio(); (e == api.ErrLong) != c.long {
			t.Errorf("%d bits above, written: %v", c.n.BitLen(), e)
		}
		if c.n.IsZero() {
			continue
		}
		if g := (Fraction{false, one, c.n}); g.IsLong() != c.long {
			t.Errorf("%d bits below: %v", c.n.BitLen(), g.IsLong())
		}
	}
}
