package ratio_test

import (
	"math/big"
	"strings"
	"testing"

	"tontine/api"
	"tontine/ratio"
)

// Promise 1.4: each of the six ways, of halves and others, on both sides of nought. Each row's answers stand in the order of the ways.
func TestRoundWays(t *testing.T) {
	cases := []struct {
		a    string
		want string
	}{
		{"0", "0 0 0 0 0 0"},
		{"3", "3 3 3 3 3 3"}, {"-4", "-4 -4 -4 -4 -4 -4"},
		{"1/2", "0 1 0 1 1 0"}, {"3/2", "1 2 1 2 2 2"}, {"5/2", "2 3 2 3 3 2"}, {"7/2", "3 4 3 4 4 4"},
		{"-1/2", "-1 0 0 -1 -1 0"}, {"-3/2", "-2 -1 -1 -2 -2 -2"}, {"-5/2", "-3 -2 -2 -3 -3 -2"}, {"-7/2", "-4 -3 -3 -4 -4 -4"},
		{"1/3", "0 1 0 1 0 0"}, {"2/3", "0 1 0 1 1 1"}, {"-1/3", "-1 0 0 -1 0 0"}, {"-2/3", "-1 0 0 -1 -1 -1"},
		{"49999999999999999999/100000000000000000000", "0 1 0 1 0 0"}, {"50000000000000000001/100000000000000000000", "0 1 0 1 1 1"},
		{"-49999999999999999999/100000000000000000000", "-1 0 0 -1 0 0"}, {"-50000000000000000001/100000000000000000000", "-1 0 0 -1 -1 -1"},
	}
	for _, c := range cases {
		for i, expected := range strings.Fields(c.want) {
			want(t, "Round of "+c.a, told(ratio.Round(of(c.a), of("1"), ways[i])), expected)
			want(t, "Decimal of "+c.a, toldText(ratio.Decimal(of(c.a), 0, ways[i])), expected)
		}
	}
}

// Promise 1.4: steps.
func TestRoundSteps(t *testing.T) {
	cases := []struct {
		a, step string
		mode    int
		want    string
	}{
		{"7/10", "1/4", api.RoundFloor, "1/2"}, {"7/10", "1/4", api.RoundCeil, "3/4"}, {"7/10", "1/4", api.RoundHalfUp, "3/4"},
		{"7/10", "2/3", api.RoundHalfEven, "2/3"}, {"1", "2/3", api.RoundHalfEven, "4/3"}, {"1/3", "2/3", api.RoundHalfEven, "0"}, {"1", "2/3", api.RoundHalfUp, "4/3"}, {"-1", "2/3", api.RoundDown, "-2/3"},
		{"7", "10", api.RoundHalfUp, "10"}, {"5", "10", api.RoundHalfUp, "10"}, {"5", "10", api.RoundHalfEven, "0"}, {"-15", "10", api.RoundHalfEven, "-20"}, {"-1", "10", api.RoundFloor, "-10"}, {"-1", "10", api.RoundCeil, "0"},
		{"22/7", "22/7", api.RoundUp, "22/7"}, {"0", "22/7", api.RoundUp, "0"},
		{nines(api.MaxDigits), "10", api.RoundFloor, nines(api.MaxDigits-1) + "0"}, {nines(api.MaxDigits), "10", api.RoundCeil, "error 3"}, {"1/" + nines(api.MaxDigits), nines(api.MaxDigits), api.RoundUp, nines(api.MaxDigits)}, {nines(api.MaxDigits), "1/" + nines(api.MaxDigits), api.RoundUp, nines(api.MaxDigits)},
		{"1", "0", api.RoundFloor, "error 1"}, {"1", "-1", api.RoundFloor, "error 1"}, {"1", "-1/2", api.RoundFloor, "error 1"},
		{"1", "1", 0, "error 1"}, {"1", "1", 7, "error 1"}, {"1", "1", -1, "error 1"}, {"0", "1", 1 << 40, "error 1"}, {nines(api.MaxDigits), "10", 7, "error 1"},
	}
	for _, c := range cases {
		want(t, "Round of "+shortened(c.a)+" to "+shortened(c.step), told(ratio.Round(of(c.a), of(c.step), c.mode)), c.want)
	}
}

// Promise 1.11: a multiple, near enough, on the right side; of halves the right one.
func TestRoundIsNear(t *testing.T) {
	r, must := random(11), mustRatio(t)
	check := func(a, step api.Ratio, mode int) {
		t.Helper()
		x, s := toBig(a), toBig(step)
		y := toBig(must(ratio.Round(a, step, mode)))
		n := new(big.Rat).Quo(y, s)
		off := new(big.Rat).Sub(y, x) // by how much it went up
		size := new(big.Rat).Quo(new(big.Rat).Abs(off), s)
		outwards := off.Sign() * x.Sign()
		half := size.Cmp(big.NewRat(1, 2))
		ok := n.IsInt() && size.Cmp(big.NewRat(1, 1)) < 0
		switch mode {
		case api.RoundFloor:
			ok = ok && off.Sign() <= 0
		case api.RoundCeil:
			ok = ok && off.Sign() >= 0
		case api.RoundDown:
			ok = ok && outwards <= 0
		case api.RoundUp:
			ok = ok && outwards >= 0
		case api.RoundHalfUp:
			ok = ok && half <= 0 && (half < 0 || outwards > 0)
		case api.RoundHalfEven:
			ok = ok && half <= 0 && (half < 0 || n.Num().Bit(0) == 0)
		}
		if !ok {
			t.Errorf("Round of %v to %v by %d: %v", a, step, mode, y)
		}
		stays := must(ratio.Round(fromBig(y), step, mode))
		want(t, "Round of a multiple", told(stays, api.OK), tellBig(y))
	}
	for _, mode := range ways {
		for _, a := range some() {
			for _, step := range some() {
				if toBig(step).Sign() > 0 {
					check(a, step, mode)
				}
			}
		}
		for range 60 {
			a, step := randomRatio(r, sizes[r.Intn(10)]), randomRatio(r, sizes[r.Intn(10)])
			if s := toBig(step); s.Sign() != 0 {
				check(a, fromBig(s.Abs(s)), mode)
			}
		}
	}
}

// Promise 1.11: it goes with the order.
func TestRoundGoesWithTheOrder(t *testing.T) {
	must := mustRatio(t)
	for _, mode := range ways {
		for _, step := range []string{"1", "1/2", "2/3", "5"} {
			for p := int64(-60); p < 60; p++ {
				a, b := fromBig(big.NewRat(p, 12)), fromBig(big.NewRat(p+1, 12))
				x, y := toBig(must(ratio.Round(a, of(step), mode))), toBig(must(ratio.Round(b, of(step), mode)))
				if x.Cmp(y) > 0 {
					t.Errorf("by %d to %s: %v becomes %v, %v becomes %v", mode, step, a, x, b, y)
				}
			}
		}
	}
}

// Promise 1.4.
func TestDecimal(t *testing.T) {
	zeros := strings.Repeat("0", ratio.MaxPlaces)
	cases := []struct {
		a            string
		places, mode int
		want         string
	}{
		{"-1/3", 4, api.RoundHalfUp, "-0.3333"}, {"-1/3", 0, api.RoundHalfUp, "0"}, {"2", 2, api.RoundFloor, "2.00"},
		{"0", 0, api.RoundUp, "0"}, {"0", 3, api.RoundUp, "0.000"}, {"-12", 1, api.RoundUp, "-12.0"}, {"1/8", 3, api.RoundDown, "0.125"}, {"1/8", 2, api.RoundHalfEven, "0.12"}, {"3/8", 2, api.RoundHalfEven, "0.38"}, {"1/8", 2, api.RoundHalfUp, "0.13"}, {"-1/8", 2, api.RoundHalfUp, "-0.13"},
		{"-1/1000", 2, api.RoundFloor, "-0.01"}, {"-1/1000", 2, api.RoundCeil, "0.00"}, {"-1/1000", 2, api.RoundUp, "-0.01"}, {"-1/1000", 2, api.RoundDown, "0.00"}, {"-1/1000", 3, api.RoundDown, "-0.001"}, {"1/1000", 2, api.RoundCeil, "0.01"},
		{"999/1000", 2, api.RoundHalfUp, "1.00"}, {"-9999/1000", 2, api.RoundHalfUp, "-10.00"}, {"2469/20", 1, api.RoundHalfEven, "123.4"}, {"2471/20", 1, api.RoundHalfEven, "123.6"},
		{"1", ratio.MaxPlaces, api.RoundFloor, "1." + zeros}, {"-1", ratio.MaxPlaces, api.RoundFloor, "-1." + zeros}, {"1/" + ten(ratio.MaxPlaces), ratio.MaxPlaces, api.RoundFloor, "0." + zeros[1:] + "1"}, {"1/3", ratio.MaxPlaces, api.RoundFloor, "0." + strings.Repeat("3", ratio.MaxPlaces)},
		{"1", ratio.MaxPlaces + 1, api.RoundFloor, "error 1"}, {"1", -1, api.RoundFloor, "error 1"}, {"1", 1 << 62, api.RoundFloor, "error 1"}, {"1", 2, 0, "error 1"}, {"1", 2, 7, "error 1"}, {"0", 0, -6, "error 1"},
		{nines(api.MaxDigits), 0, api.RoundFloor, nines(api.MaxDigits)}, {"-" + nines(api.MaxDigits), 0, api.RoundFloor, "-" + nines(api.MaxDigits)}, {nines(api.MaxDigits), 1, api.RoundFloor, "error 3"}, {nines(api.MaxDigits), 1, 7, "error 1"},
		{nines(api.MaxDigits - ratio.MaxPlaces), ratio.MaxPlaces, api.RoundFloor, nines(api.MaxDigits-ratio.MaxPlaces) + "." + zeros}, {ten(api.MaxDigits - ratio.MaxPlaces), ratio.MaxPlaces, api.RoundFloor, "error 3"},
		{"-" + nines(api.MaxDigits-2), 2, api.RoundFloor, "-" + nines(api.MaxDigits-2) + ".00"}, {nines(api.MaxDigits - 1), 2, api.RoundFloor, "error 3"},
	}
	for _, c := range cases {
		want(t, "Decimal of "+shortened(c.a), toldText(ratio.Decimal(of(c.a), c.places, c.mode)), c.want)
	}
}

// Promises 1.4, 1.12: Parse of Decimal is Round to that multiple, and the digits are of the form that is said.
func TestDecimalThereAndBack(t *testing.T) {
	r, must := random(12), mustRatio(t)
	for range 400 {
		a, places, mode := randomRatio(r, sizes[r.Intn(9)]), r.Intn(30), ways[r.Intn(6)]
		text, e := ratio.Decimal(a, places, mode)
		if e != api.OK {
			t.Fatalf("Decimal: %v", e)
		}
		back := must(ratio.Round(a, must(ratio.Pow(of("10"), -places)), mode))
		want(t, "Parse of "+text, told(ratio.Parse(text)), told(back, api.OK))
		head, tail, point := strings.Cut(text, ".")
		if len(tail) != places || point != (places > 0) || strings.HasPrefix(head, "-") != (toBig(back).Sign() < 0) {
			t.Errorf("Decimal of %v with %d places: %s", a, places, text)
		}
	}
}
