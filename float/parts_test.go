package float_test

import (
	"fmt"
	"math"
	"testing"

	"tontine/api"
	"tontine/float"
)

// parts are those of a float and of a small one that the chapter names.
var parts = []struct {
	x     float64
	parts api.Parts
}{
	{0, api.Parts{Kind: api.FloatNought}},
	{minus, api.Parts{Kind: api.FloatNought, Neg: true}},
	{least, api.Parts{Kind: api.FloatSmall, Mant: 1, Exp: -1074}},
	{-least, api.Parts{Kind: api.FloatSmall, Neg: true, Mant: 1, Exp: -1074}},
	{math.Nextafter(leastNormal, 0), api.Parts{Kind: api.FloatSmall, Mant: 1<<52 - 1, Exp: -1074}},
	{leastNormal, api.Parts{Kind: api.FloatNormal, Mant: 1 << 52, Exp: -1074}},
	{-leastNormal, api.Parts{Kind: api.FloatNormal, Neg: true, Mant: 1 << 52, Exp: -1074}},
	{1, api.Parts{Kind: api.FloatNormal, Mant: 1 << 52, Exp: -52}},
	{-1.5, api.Parts{Kind: api.FloatNormal, Neg: true, Mant: 3 << 51, Exp: -52}},
	{greatest, api.Parts{Kind: api.FloatNormal, Mant: 1<<53 - 1, Exp: 971}},
	{-greatest, api.Parts{Kind: api.FloatNormal, Neg: true, Mant: 1<<53 - 1, Exp: 971}},
	{inf, api.Parts{Kind: api.FloatInfinite}},
	{-inf, api.Parts{Kind: api.FloatInfinite, Neg: true}},
	{none, api.Parts{Kind: api.FloatNone}},
}

var parts32 = []struct {
	x     float32
	parts api.Parts
}{
	{0, api.Parts{Kind: api.FloatNought}},
	{float32(minus), api.Parts{Kind: api.FloatNought, Neg: true}},
	{least32, api.Parts{Kind: api.FloatSmall, Mant: 1, Exp: -149}},
	{-least32, api.Parts{Kind: api.FloatSmall, Neg: true, Mant: 1, Exp: -149}},
	{math.Nextafter32(leastNormal32, 0), api.Parts{Kind: api.FloatSmall, Mant: 1<<23 - 1, Exp: -149}},
	{leastNormal32, api.Parts{Kind: api.FloatNormal, Mant: 1 << 23, Exp: -149}},
	{1, api.Parts{Kind: api.FloatNormal, Mant: 1 << 23, Exp: -23}},
	{-1.5, api.Parts{Kind: api.FloatNormal, Neg: true, Mant: 3 << 22, Exp: -23}},
	{greatest32, api.Parts{Kind: api.FloatNormal, Mant: 1<<24 - 1, Exp: 104}},
	{-greatest32, api.Parts{Kind: api.FloatNormal, Neg: true, Mant: 1<<24 - 1, Exp: 104}},
	{float32(inf), api.Parts{Kind: api.FloatInfinite}},
	{float32(-inf), api.Parts{Kind: api.FloatInfinite, Neg: true}},
	{float32(none), api.Parts{Kind: api.FloatNone}},
}

// 2.1: parts are told, and put together again.
func TestSplitJoin(t *testing.T) {
	for _, c := range parts {
		want(t, "Split "+told(c.x), fmt.Sprint(float.Split(c.x)), fmt.Sprint(c.parts))
		want(t, fmt.Sprint("Join ", c.parts), tellFloat(float.Join(c.parts)), tellFloat(c.x, api.OK))
	}
	for _, c := range parts32 {
		want(t, "Split32 "+told32(c.x), fmt.Sprint(float.Split32(c.x)), fmt.Sprint(c.parts))
		want(t, fmt.Sprint("Join32 ", c.parts), tell32(float.Join32(c.parts)), tell32(c.x, api.OK))
	}
}

// 2.1: of one that is none neither the sign nor a further bit is told.
func TestSplitNone(t *testing.T) {
	for _, b := range []uint64{0x7ff0000000000001, 0x7ff8000000000000, 0xfff8000000000000, 0xfff0000000000001, 0xffffffffffffffff} {
		if p := float.Split(math.Float64frombits(b)); p != (api.Parts{Kind: api.FloatNone}) {
			t.Errorf("Split of %x: %v", b, p)
		}
	}
	for _, b := range []uint32{0x7f800001, 0x7fc00000, 0xffc00000, 0xff800001, 0xffffffff} {
		if p := float.Split32(math.Float32frombits(b)); p != (api.Parts{Kind: api.FloatNone}) {
			t.Errorf("Split32 of %x: %v", b, p)
		}
	}
}

// 2.1: parts of no float, of either size.
func TestJoinRefuses(t *testing.T) {
	wrong := []api.Parts{
		{Kind: -1}, {Kind: 5}, {Kind: math.MinInt}, {Kind: math.MaxInt},
		{Kind: api.FloatNought, Mant: 1}, {Kind: api.FloatNought, Exp: 1}, {Kind: api.FloatNought, Exp: -1074},
		{Kind: api.FloatInfinite, Mant: 1}, {Kind: api.FloatInfinite, Exp: 1}, {Kind: api.FloatInfinite, Neg: true, Exp: 972},
		{Kind: api.FloatNone, Neg: true}, {Kind: api.FloatNone, Mant: 1}, {Kind: api.FloatNone, Exp: -1},
		{Kind: api.FloatSmall}, {Kind: api.FloatSmall, Exp: -1074}, {Kind: api.FloatSmall, Exp: -149},
		{Kind: api.FloatSmall, Mant: 1}, {Kind: api.FloatSmall, Mant: 1, Exp: -1075}, {Kind: api.FloatSmall, Mant: 1, Exp: -150},
		{Kind: api.FloatSmall, Mant: 1 << 52, Exp: -1074}, {Kind: api.FloatSmall, Mant: 1 << 23, Exp: -149},
		{Kind: api.FloatSmall, Mant: 1 << 63, Exp: -1074}, {Kind: api.FloatSmall, Mant: 1<<63 + 1, Exp: -1074},
		{Kind: api.FloatSmall, Mant: 1<<31 + 1, Exp: -149}, {Kind: api.FloatSmall, Mant: 1<<32 + 1, Exp: -149},
		{Kind: api.FloatNormal}, {Kind: api.FloatNormal, Exp: 1}, {Kind: api.FloatNormal, Mant: 1},
		{Kind: api.FloatNormal, Mant: 1<<52 - 1, Exp: 0}, {Kind: api.FloatNormal, Mant: 1<<23 - 1, Exp: 0},
		{Kind: api.FloatNormal, Mant: 1 << 53, Exp: 0}, {Kind: api.FloatNormal, Mant: 1<<53 + 1<<52, Exp: 0},
		{Kind: api.FloatNormal, Mant: 1<<63 + 1<<52, Exp: 0}, {Kind: api.FloatNormal, Mant: 1<<64 - 1, Exp: 0},
		{Kind: api.FloatNormal, Mant: 1<<63 + 1<<23, Exp: 0}, {Kind: api.FloatNormal, Mant: 1<<31 + 1<<23, Exp: 0},
		{Kind: api.FloatNormal, Mant: 1 << 52, Exp: -1075}, {Kind: api.FloatNormal, Mant: 1 << 52, Exp: 972},
		{Kind: api.FloatNormal, Mant: 1 << 52, Exp: 973}, {Kind: api.FloatNormal, Neg: true, Mant: 1 << 52, Exp: 2000},
		{Kind: api.FloatNormal, Mant: 1 << 52, Exp: 4096}, {Kind: api.FloatNormal, Mant: 1 << 52, Exp: -4096},
		{Kind: api.FloatNormal, Mant: 1 << 52, Exp: math.MaxInt}, {Kind: api.FloatNormal, Mant: 1 << 52, Exp: math.MinInt},
		{Kind: api.FloatNormal, Mant: 1 << 23, Exp: -150}, {Kind: api.FloatNormal, Mant: 1 << 23, Exp: 105},
		{Kind: api.FloatNormal, Mant: 1 << 23, Exp: 106}, {Kind: api.FloatNormal, Neg: true, Mant: 1 << 23, Exp: 360},
		{Kind: api.FloatNormal, Mant: 1 << 23, Exp: math.MaxInt}, {Kind: api.FloatNormal, Mant: 1 << 23, Exp: math.MinInt},
	}
	for _, p := range wrong {
		want(t, fmt.Sprint("Join ", p), tellFloat(float.Join(p)), api.ErrParts.Error())
		want(t, fmt.Sprint("Join32 ", p), tell32(float.Join32(p)), api.ErrParts.Error())
	}
}

// 2.1: what is right of the one size is wrong of the other one.
func TestJoinOfOtherSize(t *testing.T) {
	for _, c := range parts {
		if c.parts.Mant != 0 {
			want(t, fmt.Sprint("Join32 ", c.parts), tell32(float.Join32(c.parts)), api.ErrParts.Error())
		}
	}
	for _, c := range parts32 {
		if c.parts.Mant != 0 {
			want(t, fmt.Sprint("Join ", c.parts), tellFloat(float.Join(c.parts)), api.ErrParts.Error())
		}
	}
}

// 2.1, 2.7: Join of Split is x, and the parts are m times 2^e within their bounds.
func TestThereAndBack(t *testing.T) {
	r := random(1)
	for range 200000 {
		x := math.Float64frombits(r.Uint64())
		p := float.Split(x)
		want(t, "Join of Split", tellFloat(float.Join(p)), tellFloat(x, api.OK))
		switch p.Kind {
		case api.FloatNormal:
			if p.Mant>>52 != 1 || p.Exp < -1074 || p.Exp > 971 || math.Ldexp(float64(p.Mant), p.Exp) != math.Abs(x) {
				t.Fatalf("parts of %g: %v", x, p)
			}
		case api.FloatSmall:
			if p.Mant>>52 != 0 || p.Exp != -1074 || math.Ldexp(float64(p.Mant), p.Exp) != math.Abs(x) {
				t.Fatalf("parts of %g: %v", x, p)
			}
		}
		y := math.Float32frombits(r.Uint32())
		q := float.Split32(y)
		want(t, "Join32 of Split32", tell32(float.Join32(q)), tell32(y, api.OK))
		if y == y && q.Kind != api.FloatInfinite && math.Ldexp(float64(q.Mant), q.Exp) != math.Abs(float64(y)) {
			t.Fatalf("parts of %g: %v", y, q)
		}
	}
}
