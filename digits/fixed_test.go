package digits_test

import (
	"fmt"
	"math"
	"math/big"
	"strings"
	"testing"

	"tontine/api"
	"tontine/digits"
	"tontine/float"
	"tontine/ratio"
)

// 3.3: all digits of a float's number.
func TestExact(t *testing.T) {
	for _, x := range manyFloats(150) {
		if !isFinite(x) {
			want(t, "Exact of "+told(x), tellText(digits.Exact(x)), api.ErrNotFinite.Error())
			continue
		}
		want(t, "Exact of "+told(x), tellText(digits.Exact(x)), decimalText(ratOf(x)))
	}
	for wanted, x := range map[string]float64{"0": minus, "1": 1, "-1": -1, "100": 100, "0.5": 0.5, "-0.25": -0.25, "1000000000000000000000": 1e21, "99999999999999991611392": 1e23, "-2.5": -2.5} {
		want(t, "Exact of "+wanted, tellText(digits.Exact(x)), wanted)
	}
	s, _ := digits.Exact(least)
	if len(s) != 2+1074 || !strings.HasPrefix(s, "0."+strings.Repeat("0", 323)+"4940656458412465") || !strings.HasSuffix(s, "625") {
		t.Errorf("Exact of L: %s", s)
	}
	s, _ = digits.Exact(-greatest)
	if len(s) != 310 || !strings.HasPrefix(s, "-17976931348623157081") {
		t.Errorf("Exact of -M: %s", s)
	}
}

// fixedOf is x rounded to places, as chapter 1 has it.
func fixedOf(x float64, places, way int) string {
	r := new(big.Rat).Mul(ratOf(x), power(places))
	return new(big.Rat).Quo(new(big.Rat).SetInt(roundedWhole(r, way)), power(places)).FloatString(places)
}

// 3.4: rounded to places, by the six ways.
func TestFixed(t *testing.T) {
	for i, x := range manyFloats(60) {
		if !isFinite(x) {
			continue
		}
		for _, places := range []int{0, 1, 2, 5, 17 + i%300} {
			for _, way := range ways {
				want(t, fmt.Sprintf("Fixed of %s, %d, %d", told(x), places, way), tellText(digits.Fixed(x, places, way)), fixedOf(x, places, way))
			}
		}
	}
}

// 3.4: as ratio.Decimal writes it.
func TestFixedAsRatio(t *testing.T) {
	for _, x := range []float64{0, minus, least, -least, greatest, -greatest, leastNormal, -0.1, 1e21, 2.5, -1234.5678} {
		r, _ := float.Exact(x)
		for _, places := range []int{0, 1, 400, digits.MaxPlaces} {
			for _, way := range ways {
				wanted, e := ratio.Decimal(r, places, way)
				if e != api.OK {
					t.Fatal(e)
				}
				want(t, fmt.Sprintf("Fixed of %s, %d, %d", told(x), places, way), tellText(digits.Fixed(x, places, way)), wanted)
			}
		}
	}
}

// 3.4: each way where it tells, by hand: below half, half, above half, either side of nought.
func TestFixedByHand(t *testing.T) {
	for _, c := range []struct {
		x      float64
		places int
		wanted string // by floor, ceil, down, up, half up, half even
	}{
		{2.5, 0, "2 3 2 3 3 2"}, {-2.5, 0, "-3 -2 -2 -3 -3 -2"}, {3.5, 0, "3 4 3 4 4 4"}, {-3.5, 0, "-4 -3 -3 -4 -4 -4"},
		{2.25, 0, "2 3 2 3 2 2"}, {-2.75, 0, "-3 -2 -2 -3 -3 -3"}, {0.5, 0, "0 1 0 1 1 0"}, {-0.5, 0, "-1 0 0 -1 -1 0"},
		{1.5, 1, "1.5 1.5 1.5 1.5 1.5 1.5"}, {7, 2, "7.00 7.00 7.00 7.00 7.00 7.00"}, {minus, 2, "0.00 0.00 0.00 0.00 0.00 0.00"}, {0, 0, "0 0 0 0 0 0"},
		{0.125, 2, "0.12 0.13 0.12 0.13 0.13 0.12"}, {-0.375, 2, "-0.38 -0.37 -0.37 -0.38 -0.38 -0.38"},
		{99.75, 0, "99 100 99 100 100 100"}, {-9.5, 0, "-10 -9 -9 -10 -10 -10"}, {0.96875, 1, "0.9 1.0 0.9 1.0 1.0 1.0"}, {-0.0625, 1, "-0.1 0.0 0.0 -0.1 -0.1 -0.1"},
		{0.03125, 1, "0.0 0.1 0.0 0.1 0.0 0.0"}, {least, 2, "0.00 0.01 0.00 0.01 0.00 0.00"}, {-least, 0, "-1 0 0 -1 0 0"}, {0.0078125, 1, "0.0 0.1 0.0 0.1 0.0 0.0"},
		{1e-10, 3, "0.000 0.001 0.000 0.001 0.000 0.000"}, {120, 1, "120.0 120.0 120.0 120.0 120.0 120.0"},
	} {
		for i, wanted := range strings.Fields(c.wanted) {
			want(t, fmt.Sprintf("Fixed of %v, %d, %d", c.x, c.places, ways[i]), tellText(digits.Fixed(c.x, c.places, ways[i])), wanted)
		}
	}
	s, e := digits.Fixed(greatest, digits.MaxPlaces, api.RoundUp)
	if len(s) != 309+1+digits.MaxPlaces || e != api.OK {
		t.Errorf("Fixed of M with the most places: %d bytes, %v", len(s), e)
	}
}

// 3.4, 3.5: what is wrong, and which comes first.
func TestFixedErrors(t *testing.T) {
	if digits.MaxPlaces != 1024 || digits.MaxCount != 1024 {
		t.Error("the limits are others than the document's")
	}
	for _, x := range []float64{inf, -inf, none} {
		for _, n := range []int{-1, 1, 5000} {
			for _, way := range []int{0, 1, 7} {
				want(t, "Fixed of "+told(x), tellText(digits.Fixed(x, n, way)), api.ErrNotFinite.Error())
				want(t, "Scientific of "+told(x), tellText(digits.Scientific(x, n, way)), api.ErrNotFinite.Error())
			}
		}
	}
	for _, x := range []float64{0, minus, 1.5, least, -greatest} {
		for _, way := range append(noWays, ways...) {
			for _, n := range []int{-1, math.MinInt, digits.MaxPlaces + 1, math.MaxInt} {
				want(t, "Fixed with wrong places", tellText(digits.Fixed(x, n, way)), api.ErrRange.Error())
			}
			for _, n := range []int{0, -1, math.MinInt, digits.MaxCount + 1, math.MaxInt} {
				want(t, "Scientific with a wrong count", tellText(digits.Scientific(x, n, way)), api.ErrRange.Error())
			}
		}
		for _, way := range noWays {
			want(t, "Fixed by no way", tellText(digits.Fixed(x, 2, way)), api.ErrRange.Error())
			want(t, "Scientific by no way", tellText(digits.Scientific(x, 2, way)), api.ErrRange.Error())
		}
	}
}

// scientificOf is x rounded to count digits, as the promise has it.
func scientificOf(x float64, count, way int) string {
	sign, digits, top := "", strings.Repeat("0", count), 0
	if x != 0 {
		size := ratOf(math.Abs(x))
		top = order(size)
		n := roundedWhole(new(big.Rat).Quo(ratOf(x), power(top-count+1)), way)
		if n.Sign() < 0 {
			sign = "-"
		}
		digits = n.Abs(n).String()
		if len(digits) > count { // 10 to the top + 1
			top++
			digits = digits[:count]
		}
	}
	if count > 1 {
		digits = digits[:1] + "." + digits[1:]
	}
	return fmt.Sprintf("%s%se%d", sign, digits, top)
}

// 3.5: with count digits, by the six ways.
func TestScientific(t *testing.T) {
	for i, x := range manyFloats(60) {
		if !isFinite(x) {
			continue
		}
		counts := []int{1, 2, 3, 16, 17, 18 + i%200}
		if i%50 == 0 {
			counts = append(counts, 750, 767, 768, digits.MaxCount)
		}
		for _, count := range counts {
			for _, way := range ways {
				want(t, fmt.Sprintf("Scientific of %s, %d, %d", told(x), count, way), tellText(digits.Scientific(x, count, way)), scientificOf(x, count, way))
			}
		}
	}
}

// 3.5: each way where it tells, by hand, and where rounding comes to 10 to the E + 1.
func TestScientificByHand(t *testing.T) {
	for _, c := range []struct {
		x      float64
		count  int
		wanted string // by floor, ceil, down, up, half up, half even
	}{
		{0, 1, "0e0 0e0 0e0 0e0 0e0 0e0"}, {minus, 3, "0.00e0 0.00e0 0.00e0 0.00e0 0.00e0 0.00e0"},
		{25, 1, "2e1 3e1 2e1 3e1 3e1 2e1"}, {-25, 1, "-3e1 -2e1 -2e1 -3e1 -3e1 -2e1"}, {-35, 1, "-4e1 -3e1 -3e1 -4e1 -4e1 -4e1"},
		{9.75, 2, "9.7e0 9.8e0 9.7e0 9.8e0 9.8e0 9.8e0"}, {99.5, 2, "9.9e1 1.0e2 9.9e1 1.0e2 1.0e2 1.0e2"}, {-99.5, 2, "-1.0e2 -9.9e1 -9.9e1 -1.0e2 -1.0e2 -1.0e2"},
		{9.5, 1, "9e0 1e1 9e0 1e1 1e1 1e1"}, {0.09375, 1, "9e-2 1e-1 9e-2 1e-1 9e-2 9e-2"}, {0.99609375, 2, "9.9e-1 1.0e0 9.9e-1 1.0e0 1.0e0 1.0e0"},
		{1, 3, "1.00e0 1.00e0 1.00e0 1.00e0 1.00e0 1.00e0"}, {1000, 1, "1e3 1e3 1e3 1e3 1e3 1e3"}, {0.5, 2, "5.0e-1 5.0e-1 5.0e-1 5.0e-1 5.0e-1 5.0e-1"},
		{least, 2, "4.9e-324 5.0e-324 4.9e-324 5.0e-324 4.9e-324 4.9e-324"}, {-greatest, 2, "-1.8e308 -1.7e308 -1.7e308 -1.8e308 -1.8e308 -1.8e308"},
		{105, 2, "1.0e2 1.1e2 1.0e2 1.1e2 1.1e2 1.0e2"}, {100.5, 2, "1.0e2 1.1e2 1.0e2 1.1e2 1.0e2 1.0e2"},
	} {
		for i, wanted := range strings.Fields(c.wanted) {
			want(t, fmt.Sprintf("Scientific of %v, %d, %d", c.x, c.count, ways[i]), tellText(digits.Scientific(c.x, c.count, ways[i])), wanted)
		}
	}
	s, e := digits.Scientific(-1, digits.MaxCount, api.RoundUp)
	want(t, "Scientific with the greatest count", tellText(s, e), "-1."+strings.Repeat("0", digits.MaxCount-1)+"e0")
}
