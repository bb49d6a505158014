package float_test

import (
	"fmt"
	"math"
	"testing"

	"tontine/api"
	"tontine/float"
)

// 2.3: the next float above, and below.
func TestUpDown(t *testing.T) {
	for _, c := range []struct{ x, up, down float64 }{
		{0, least, -least}, {minus, least, -least}, {least, 2 * least, 0}, {-least, minus, -2 * least},
		{math.Nextafter(leastNormal, 0), leastNormal, leastNormal - 2*least}, {1, 1 + math.Ldexp(1, -52), 1 - math.Ldexp(1, -53)},
		{-1, -1 + math.Ldexp(1, -53), -1 - math.Ldexp(1, -52)}, {greatest, inf, greatest - math.Ldexp(1, 971)},
		{-greatest, -greatest + math.Ldexp(1, 971), -inf}, {inf, inf, greatest}, {-inf, -greatest, -inf}, {none, none, none},
	} {
		want(t, "Up "+told(c.x), told(float.Up(c.x)), told(c.up))
		want(t, "Down "+told(c.x), told(float.Down(c.x)), told(c.down))
	}
	r := random(10)
	for range 20000 {
		x := anyFloat(r)
		if up := math.Nextafter(x, inf); up != 0 {
			want(t, "Up "+told(x), told(float.Up(x)), told(up))
		}
		if down := math.Nextafter(x, -inf); down != 0 {
			want(t, "Down "+told(x), told(float.Down(x)), told(down))
		}
		want(t, "Down by Up", told(float.Down(x)), told(-float.Up(-x)))
	}
}

func tellSteps(n uint64, ok bool) string { return fmt.Sprint(n, " ", ok) }

// 2.3: how many steps of Up lead from one to the other.
func TestSteps(t *testing.T) {
	all := uint64(0x7ff) << 52 // from nought to the infinite one
	for _, c := range []struct {
		x, y float64
		n    uint64
	}{
		{0, 0, 0}, {0, minus, 0}, {minus, minus, 0}, {1, 1, 0}, {inf, inf, 0}, {-inf, -inf, 0}, {0, least, 1}, {minus, least, 1}, {0, -least, 1}, {minus, -least, 1},
		{-least, least, 2}, {1, 2, 1 << 52}, {-2, -1, 1 << 52}, {-1, 1, 2 * 0x3ff << 52}, {0, leastNormal, 1 << 52}, {greatest, inf, 1}, {-inf, -greatest, 1},
		{0, inf, all}, {-inf, minus, all}, {-inf, inf, 2 * all}, {-greatest, greatest, 2*all - 2}, {1, greatest, all - 1 - 0x3ff<<52},
	} {
		want(t, fmt.Sprint("Steps ", c.x, " ", c.y), tellSteps(float.Steps(c.x, c.y)), tellSteps(c.n, true))
		want(t, fmt.Sprint("Steps ", c.y, " ", c.x), tellSteps(float.Steps(c.y, c.x)), tellSteps(c.n, true))
	}
	for _, x := range append(edges(), none) {
		want(t, "Steps of none", tellSteps(float.Steps(none, x)), tellSteps(0, false))
		want(t, "Steps of none", tellSteps(float.Steps(x, none)), tellSteps(0, false))
		y := x
		for n := range uint64(20) {
			if x == x && y < inf {
				want(t, "Steps by Up", tellSteps(float.Steps(x, y)), tellSteps(n, true))
				want(t, "Steps by Up", tellSteps(float.Steps(y, x)), tellSteps(n, true))
			}
			y = float.Up(y)
		}
	}
}

// 2.3: the total order: by numbers, -0 ahead of +0, all that are none behind.
func TestOrder(t *testing.T) {
	more := math.Float64frombits(0xfff0000000000001)
	inOrder := []float64{-inf, -greatest, -1, -leastNormal, -least, minus, 0, least, leastNormal, 1, math.Nextafter(1, 2), greatest, inf}
	for i, x := range inOrder {
		for j, y := range inOrder {
			wanted := 0
			if i < j {
				wanted = -1
			} else if i > j {
				wanted = 1
			}
			if float.Order(x, y) != wanted || float.Same(x, y) != (i == j) {
				t.Errorf("Order of %g and %g: %d, Same: %v", x, y, float.Order(x, y), float.Same(x, y))
			}
		}
		for _, y := range []float64{none, more, -none} {
			if float.Order(x, y) != -1 || float.Order(y, x) != 1 || float.Same(x, y) || float.Same(y, x) {
				t.Errorf("Order of %g and none", x)
			}
		}
	}
	if float.Order(none, more) != 0 || float.Order(more, none) != 0 || !float.Same(none, more) || !float.Same(none, none) {
		t.Error("those that are none are not the same")
	}
	r := random(11)
	for range 20000 {
		x, y := anyFloat(r), anyFloat(r)
		if x < y && float.Order(x, y) != -1 || x > y && float.Order(x, y) != 1 || x == y && x != 0 && float.Order(x, y) != 0 {
			t.Errorf("Order of %g and %g: %d", x, y, float.Order(x, y))
		}
	}
}

func tellGap(x float64, ok bool) string { return fmt.Sprint(told(x), " ", ok) }

// 2.3: 2^Exp, of noughts and subnormal ones L.
func TestGap(t *testing.T) {
	for _, x := range append(edges(), none) {
		wanted, ok := 0.0, true
		switch p := float.Split(x); p.Kind {
		case api.FloatNormal:
			wanted = math.Ldexp(1, p.Exp)
		case api.FloatSmall, api.FloatNought:
			wanted = least
		default:
			ok = false
		}
		want(t, "Gap "+told(x), tellGap(float.Gap(x)), tellGap(wanted, ok))
	}
	for e := -1074; e <= 971; e++ {
		want(t, "Gap", tellGap(float.Gap(math.Ldexp(1<<52, e))), tellGap(math.Ldexp(1, e), true))
		want(t, "Gap", tellGap(float.Gap(-math.Ldexp(1<<53-1, e))), tellGap(math.Ldexp(1, e), true))
	}
}
