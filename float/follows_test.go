package float_test

import (
	"fmt"
	"math"
	"math/big"
	"slices"
	"testing"

	"tontine/api"
	"tontine/float"
)

func mustRound(t *testing.T, v *big.Rat, way int) float64 {
	t.Helper()
	x, e := float.Round(fromBig(v), way)
	if e != api.OK {
		t.Fatalf("Round of %s: %v", shortened(v), e)
	}
	return x
}

// 2.8: Round rises, by every way.
func TestRoundRises(t *testing.T) {
	l := aboutFloats()
	r := random(40)
	for range 1000 {
		l = append(l, anyRatio(r.Int63n(1000), r.Int63n(1000), r.Intn(8)))
	}
	slices.SortFunc(l, (*big.Rat).Cmp)
	for _, way := range ways {
		last := -inf
		for _, v := range l {
			x := mustRound(t, v, way)
			if x < last {
				t.Errorf("Round by %d falls from %g to %g at %s", way, last, x, shortened(v))
			}
			last = x
		}
	}
}

// 2.8: by RoundFloor it is not above, by RoundCeil not below; both are the same float, or neighbours.
func TestFloorAndCeil(t *testing.T) {
	for _, v := range aboutFloats() {
		low, high := mustRound(t, v, api.RoundFloor), mustRound(t, v, api.RoundCeil)
		if low != -inf && number(low).Cmp(v) > 0 || high != inf && number(high).Cmp(v) < 0 {
			t.Errorf("%s is not from %g to %g", shortened(v), low, high)
		}
		isFloat := finite(low) && number(low).Cmp(v) == 0
		if isFloat && !float.Same(low, high) || !isFloat && float.Up(low) != high {
			t.Errorf("%s: %g and %g", shortened(v), low, high)
		}
	}
}

// 2.9: a difference of two that are near one another is exact.
func TestSterbenz(t *testing.T) {
	r := random(41)
	for range 20000 {
		y := math.Abs(anyFloat(r))
		if !finite(y) || y == 0 {
			continue
		}
		x := y/2 + r.Float64()*1.5*y
		for _, x := range []float64{x, y / 2, 2 * y, y, float.Up(y), float.Down(y)} {
			if x <= 0 || !finite(x) || times(number(x), two(1)).Cmp(number(y)) < 0 || times(number(y), two(1)).Cmp(number(x)) < 0 {
				continue
			}
			for _, way := range ways {
				if _, flags, e := float.Add(x, -y, way); flags != 0 || e != api.OK {
					t.Errorf("Add %g and %g by %d: flags %d", x, -y, way, flags)
				}
			}
		}
	}
}

// 2.11: rounded twice is rounded once: of small floats.
func TestRoundedTwice(t *testing.T) {
	r := random(42)
	l := edges32()
	for range 60 {
		l = append(l, anyFloat32(r))
	}
	for _, x := range l {
		for _, y := range l {
			a, b := float.Widen(x), float.Widen(y)
			if !finite(a) || !finite(b) {
				continue
			}
			checkTwice(t, "Add", x, y, float.Add, plus(number(a), number(b)))
			checkTwice(t, "Mul", x, y, float.Mul, times(number(a), number(b)))
			if y != 0 {
				checkTwice(t, "Div", x, y, float.Div, by(number(a), number(b)))
			}
		}
		checkRootTwice(t, x)
	}
}

func checkTwice(t *testing.T, what string, x, y float32, reckon func(x, y float64, way int) (float64, int, api.Errno), v *big.Rat) {
	t.Helper()
	large, _, _ := reckon(float.Widen(x), float.Widen(y), api.RoundHalfEven)
	twice, e := float.Narrow(large, api.RoundHalfEven)
	once, f := float.Round32(fromBig(v), api.RoundHalfEven)
	if e != api.OK || f != api.OK || twice != once || v.Sign() != 0 && math.Signbit(float64(twice)) != (v.Sign() < 0) {
		t.Errorf("%s of %g and %g: %g, at once %g", what, x, y, twice, once)
	}
}

// checkRootTwice tells the root that was rounded at once from its neighbours by squares.
func checkRootTwice(t *testing.T, x float32) {
	t.Helper()
	a := float.Widen(x)
	if x < 0 || !finite(a) {
		return
	}
	large, _, _ := float.Root(a, api.RoundHalfEven)
	twice, _ := float.Narrow(large, api.RoundHalfEven)
	if x == 0 {
		want(t, "Root of nought", told32(twice), told32(x))
		return
	}
	for _, next := range []float32{math.Nextafter32(twice, 0), math.Nextafter32(twice, float32(inf))} {
		half := times(plus(number(float64(twice)), number(float64(next))), big.NewRat(1, 2))
		if side := times(half, half).Cmp(number(a)); next < twice && side >= 0 || next > twice && side <= 0 {
			t.Errorf("Root of %g: %g", x, twice)
		}
	}
}

// 2.12: rounded by a way, turned about it is rounded by the way that is turned about.
func TestTurnedAbout(t *testing.T) {
	about := map[int]int{api.RoundFloor: api.RoundCeil, api.RoundCeil: api.RoundFloor}
	for _, v := range aboutFloats() {
		if v.Sign() == 0 {
			continue
		}
		for _, way := range ways {
			other := way
			if about[way] != 0 {
				other = about[way]
			}
			want(t, fmt.Sprint("Round ", shortened(v), " by ", way), told(mustRound(t, v, way)), told(-mustRound(t, turned(v), other)))
		}
	}
}
