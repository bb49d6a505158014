package float_test

import (
	"fmt"
	"math"
	"math/big"
	"strings"
	"testing"

	"tontine/api"
	"tontine/float"
)

// 2.2: the number of a float.
func TestExact(t *testing.T) {
	for text, x := range map[string]float64{
		"0/1": 0, "1/1": 1, "-3/2": -1.5, "3602879701896397/36028797018963968": 0.1, "9007199254740992/1": 1 << 53,
		"1/" + two(1074).Num().String():               least,
		"-" + floats.greatest().Num().String() + "/1": -greatest,
	} {
		want(t, "Exact "+told(x), tellRatio(float.Exact(x)), text)
	}
	want(t, "Exact -0", tellRatio(float.Exact(minus)), "0/1")
	want(t, "Exact32 -0", tellRatio(float.Exact32(float32(minus))), "0/1")
	for _, x := range []float64{inf, -inf, none} {
		want(t, "Exact "+told(x), tellRatio(float.Exact(x)), api.ErrNotFinite.Error())
		want(t, "Exact32 "+told(x), tellRatio(float.Exact32(float32(x))), api.ErrNotFinite.Error())
	}
	r := random(2)
	l, l32 := edges(), edges32()
	for range 5000 {
		l, l32 = append(l, anyFloat(r)), append(l32, anyFloat32(r))
	}
	for i, x := range l {
		if finite(x) {
			want(t, "Exact "+told(x), tellRatio(float.Exact(x)), tellRatio(fromBig(number(x)), api.OK))
		}
		if i < len(l32) && finite(float64(l32[i])) {
			want(t, "Exact32 "+told32(l32[i]), tellRatio(float.Exact32(l32[i])), tellRatio(fromBig(number(float64(l32[i]))), api.OK))
		}
	}
}

// around are exact numbers about the floats of l: on the grid, half way to the next one, and a little beside both.
func around(l []*big.Rat, next func(*big.Rat) *big.Rat) []*big.Rat {
	var out []*big.Rat
	little := two(-1200)
	for _, x := range l {
		half := times(plus(x, next(x)), big.NewRat(1, 2))
		for _, v := range []*big.Rat{x, half} {
			out = append(out, v, plus(v, little), less(v, little))
		}
	}
	for _, v := range out {
		out = append(out, turned(v))
	}
	return out
}

// far are exact numbers beyond all floats, above and below, as far as they may be.
func far() []*big.Rat {
	ten := func(n int64) *big.Rat {
		return new(big.Rat).SetInt(new(big.Int).Exp(big.NewInt(10), big.NewInt(n), nil))
	}
	nines := less(ten(4096), big.NewRat(1, 1))
	l := []*big.Rat{ten(400), ten(40), ten(4095), nines, two(1024), two(128), two(1025), plus(two(1024), two(0)), big.NewRat(1, 3), big.NewRat(2, 3)}
	for _, v := range l {
		l = append(l, new(big.Rat).Inv(v))
	}
	for _, v := range l {
		l = append(l, turned(v))
	}
	return l
}

// aboutFloats are exact numbers about the edges of floats; halfway between M and what would come next on the grid among them.
func aboutFloats() []*big.Rat {
	var l []*big.Rat
	for _, x := range edges() {
		if finite(x) && !math.Signbit(x) {
			l = append(l, number(x))
		}
	}
	return append(around(l, func(x *big.Rat) *big.Rat { return next(floats, x) }), far()...)
}

func aboutSmallFloats() []*big.Rat {
	var l []*big.Rat
	for _, x := range edges32() {
		if finite(float64(x)) && x >= 0 {
			l = append(l, number(float64(x)))
		}
	}
	return append(around(l, func(x *big.Rat) *big.Rat { return next(smalls, x) }), far()...)
}

// next is the next number on the grid above x, which is on it and not below nought.
func next(s size, x *big.Rat) *big.Rat {
	return s.found(plus(x, two(-1100)), api.RoundCeil)
}

// 2.2: exact numbers by each of the six ways.
func TestRound(t *testing.T) {
	for _, v := range aboutFloats() {
		for _, way := range ways {
			x, _ := floats.rounded(v, way)
			want(t, fmt.Sprint("Round ", shortened(v), " by ", way), tellFloat(float.Round(fromBig(v), way)), tellFloat(x, api.OK))
		}
	}
	r := random(3)
	for range 4000 {
		v := anyRatio(r.Int63(), r.Int63(), r.Intn(2600)-1300)
		way := ways[r.Intn(6)]
		x, _ := floats.rounded(v, way)
		want(t, fmt.Sprint("Round ", shortened(v), " by ", way), tellFloat(float.Round(fromBig(v), way)), tellFloat(x, api.OK))
	}
}

func TestRound32(t *testing.T) {
	for _, v := range aboutSmallFloats() {
		for _, way := range ways {
			x, _ := smalls.rounded(v, way)
			want(t, fmt.Sprint("Round32 ", shortened(v), " by ", way), tell32(float.Round32(fromBig(v), way)), tell32(float32(x), api.OK))
		}
	}
	r := random(4)
	for range 4000 {
		v := anyRatio(r.Int63(), r.Int63(), r.Intn(360)-180)
		way := ways[r.Intn(6)]
		x, _ := smalls.rounded(v, way)
		want(t, fmt.Sprint("Round32 ", shortened(v), " by ", way), tell32(float.Round32(fromBig(v), way)), tell32(float32(x), api.OK))
	}
}

// anyRatio is p by q times 2^e, below nought if p is odd.
func anyRatio(p, q int64, e int) *big.Rat {
	v := times(big.NewRat(p, q+1), two(e))
	if p%2 == 1 {
		v.Neg(v)
	}
	return v
}

func shortened(v *big.Rat) string {
	s := v.RatString()
	if len(s) > 100 {
		return s[:50] + ".." + s[len(s)-40:]
	}
	return s
}

// 2.2: what is wrong with an exact number comes first, in the order of R1, then the way.
func TestRoundRefuses(t *testing.T) {
	long := "1" + strings.Repeat("0", api.MaxDigits)
	for _, c := range []struct {
		r api.Ratio
		e api.Errno
	}{
		{of(""), api.ErrShape}, {of("/"), api.ErrShape}, {of("1/"), api.ErrShape}, {of("/1"), api.ErrShape}, {api.Ratio{}, api.ErrShape},
		{of("-0"), api.ErrShape}, {of("+1"), api.ErrShape}, {of("01"), api.ErrShape}, {of("1/0"), api.ErrShape}, {of("0/0"), api.ErrShape},
		{of("1/-2"), api.ErrShape}, {of("0/2"), api.ErrShape}, {of("2/4"), api.ErrShape}, {of("-3/3"), api.ErrShape}, {of("1.5"), api.ErrShape},
		{of("1e5"), api.ErrShape}, {of(" 1"), api.ErrShape}, {of("1/02"), api.ErrShape}, {of("--1"), api.ErrShape}, {of("-"), api.ErrShape},
		{of(long), api.ErrLong}, {of("-" + long), api.ErrLong}, {of("1/" + long), api.ErrLong}, {of("2/" + long), api.ErrLong},
		{of(long + "/" + long), api.ErrLong}, {of(long + "/0"), api.ErrShape}, {of(long + "/x"), api.ErrShape}, {of("0/" + long), api.ErrShape},
	} {
		for _, way := range append(noWays, ways...) {
			what := fmt.Sprint("Round of ", len(c.r.Num), " and ", len(c.r.Den), " digits by ", way)
			want(t, what, tellFloat(float.Round(c.r, way)), c.e.Error())
			want(t, what, tell32(float.Round32(c.r, way)), c.e.Error())
		}
	}
	most := strings.Repeat("9", api.MaxDigits)
	for _, way := range noWays {
		for _, r := range []api.Ratio{of("0"), of("1/3"), of(most), of("-1/" + most)} {
			want(t, fmt.Sprint("Round by ", way), tellFloat(float.Round(r, way)), api.ErrRange.Error())
			want(t, fmt.Sprint("Round32 by ", way), tell32(float.Round32(r, way)), api.ErrRange.Error())
		}
		for _, x := range []float64{0, 1, 0.1, greatest, inf, none} {
			want(t, fmt.Sprint("Narrow by ", way), tell32(float.Narrow(x, way)), api.ErrRange.Error())
		}
	}
}

// 2.2: floats made small ones; noughts, infinite ones and none stay what they are.
func TestNarrow(t *testing.T) {
	r := random(5)
	l := edges()
	for _, x := range edges32() {
		y := float64(x)
		l = append(l, y, float.Up(y), float.Down(y), math.Ldexp(y, -1), math.Ldexp(y, 1))
	}
	for _, v := range aboutSmallFloats() {
		x, _ := v.Float64()
		l = append(l, x)
	}
	for range 2000 {
		l = append(l, anyFloat(r), math.Ldexp(r.Float64()-0.5, r.Intn(320)-160))
	}
	for _, x := range l {
		for _, way := range ways {
			wanted := x
			if finite(x) && x != 0 {
				wanted, _ = smalls.rounded(number(x), way)
			}
			want(t, fmt.Sprint("Narrow ", told(x), " by ", way), tell32(float.Narrow(x, way)), tell32(float32(wanted), api.OK))
		}
		if got, _ := float.Narrow(x, api.RoundHalfEven); told32(got) != told32(float32(x)) {
			t.Errorf("Narrow %s: %s, and Go's %s", told(x), told32(got), told32(float32(x)))
		}
	}
	for _, way := range ways {
		want(t, "Narrow none", tell32(float.Narrow(none, way)), "none")
	}
}

// 2.2: small floats made floats.
func TestWiden(t *testing.T) {
	r := random(6)
	l := append(edges32(), float32(none))
	for range 5000 {
		l = append(l, anyFloat32(r))
	}
	for _, x := range l {
		y := float.Widen(x)
		p, q := float.Split32(x), float.Split(y)
		if p.Neg != q.Neg || tellRatio(float.Exact32(x)) != tellRatio(float.Exact(y)) {
			t.Errorf("Widen %s: %s", told32(x), told(y))
		}
		if infinite, no := p.Kind == api.FloatInfinite, p.Kind == api.FloatNone; infinite != (q.Kind == api.FloatInfinite) || no != (q.Kind == api.FloatNone) {
			t.Errorf("Widen %s: %s", told32(x), told(y))
		}
	}
}

// 2.7: Round of Exact is x by every way, but that -0 comes to +0.
func TestRoundOfExact(t *testing.T) {
	r := random(7)
	l, l32 := edges(), edges32()
	for range 1000 {
		l, l32 = append(l, anyFloat(r)), append(l32, anyFloat32(r))
	}
	for _, x := range l {
		for _, way := range ways {
			if a, e := float.Exact(x); e == api.OK {
				want(t, "Round of Exact", tellFloat(float.Round(a, way)), tellFloat(x+0, api.OK))
			}
		}
	}
	for _, x := range l32 {
		for _, way := range ways {
			if a, e := float.Exact32(x); e == api.OK {
				want(t, "Round32 of Exact32", tell32(float.Round32(a, way)), tell32(x+0, api.OK))
			}
		}
	}
}

// 2.5: floats made ints.
func TestWhole(t *testing.T) {
	r := random(8)
	l := append(edges(), 0.25, 0.75, 3.5, 4.5, 2.25, 2.75, 1<<52-0.5, 1<<51+0.75, math.Nextafter(1<<63, inf), 1<<62, 9.3e18, 1<<64, math.Ldexp(1, 65), math.Ldexp(3, 63))
	for range 3000 {
		l = append(l, anyFloat(r), math.Round(2*math.Ldexp(r.Float64(), r.Intn(70)))/2)
	}
	for _, x := range l {
		for _, x := range []float64{x, -x} {
			for _, way := range ways {
				want(t, fmt.Sprint("Whole ", told(x), " by ", way), tellInt(float.Whole(x, way)), wholeOf(x, way))
			}
			for _, way := range noWays {
				want(t, "Whole by no way", tellInt(float.Whole(x, way)), api.ErrRange.Error())
			}
		}
	}
	for _, way := range ways {
		want(t, "Whole none", tellInt(float.Whole(none, way)), api.ErrNotFinite.Error())
	}
	want(t, "Whole none by no way", tellInt(float.Whole(none, 0)), api.ErrRange.Error())
	want(t, "Whole -2^63", tellInt(float.Whole(-1<<63, api.RoundFloor)), "-9223372036854775808")
	want(t, "Whole 2^63", tellInt(float.Whole(1<<63, api.RoundDown)), api.ErrRange.Error())
	want(t, "Whole below 2^63", tellInt(float.Whole(math.Nextafter(1<<63, 0), api.RoundUp)), "9223372036854774784")
	want(t, "Whole below -2^63", tellInt(float.Whole(math.Nextafter(-1<<63, -inf), api.RoundUp)), api.ErrRange.Error())
}

// wholeOf is what Whole should tell: each way is told by math's own functions.
func wholeOf(x float64, way int) string {
	if !finite(x) {
		return api.ErrNotFinite.Error()
	}
	y := 0.0
	switch way {
	case api.RoundFloor:
		y = math.Floor(x)
	case api.RoundCeil:
		y = math.Ceil(x)
	case api.RoundDown:
		y = math.Trunc(x)
	case api.RoundUp:
		y = math.Copysign(math.Ceil(math.Abs(x)), x)
	case api.RoundHalfUp:
		y = math.Round(x)
	case api.RoundHalfEven:
		y = math.RoundToEven(x)
	}
	if y < -1<<63 || y >= 1<<63 {
		return api.ErrRange.Error()
	}
	return fmt.Sprint(int(y))
}

// 2.5: ints made floats.
func TestOfInt(t *testing.T) {
	r := random(9)
	l := []int{0, 1, 2, 3, 1<<53 - 1, 1 << 53, 1<<53 + 1, 1<<53 + 2, 1<<53 + 3, 1<<54 + 1, 1<<54 + 2, 1<<54 + 3, 1<<54 + 6, 1 << 62, 1<<62 + 256, 1<<62 + 257, 1<<62 + 255, math.MaxInt, math.MaxInt - 1, math.MaxInt - 511, math.MaxInt - 512, math.MinInt, math.MinInt + 1, math.MinInt + 511, math.MinInt + 512, math.MinInt + 513}
	for range 3000 {
		l = append(l, int(r.Uint64()>>r.Intn(64)))
	}
	for _, n := range l {
		for _, n := range []int{n, -n} {
			for _, way := range ways {
				x, _ := floats.rounded(new(big.Rat).SetInt64(int64(n)), way)
				want(t, fmt.Sprint("OfInt ", n, " by ", way), tellFloat(float.OfInt(n, way)), tellFloat(x, api.OK))
			}
			for _, way := range noWays {
				want(t, "OfInt by no way", tellFloat(float.OfInt(n, way)), api.ErrRange.Error())
			}
		}
	}
	want(t, "OfInt least, up", tellFloat(float.OfInt(math.MaxInt, api.RoundCeil)), tellFloat(1<<63, api.OK))
	want(t, "OfInt greatest, down", tellFloat(float.OfInt(math.MaxInt, api.RoundFloor)), tellFloat(math.Nextafter(1<<63, 0), api.OK))
	want(t, "OfInt least", tellFloat(float.OfInt(math.MinInt, api.RoundCeil)), tellFloat(-1<<63, api.OK))
}
