package exact

import (
	"slices"
	"strings"
	"testing"

	"tontine/api"
	"tontine/whole"
)

func TestTexts(t *testing.T) {
	for s, is := range map[string][3]bool{ // whole, natural, digits
		"0": {true, true, true}, "7": {true, true, true}, "10": {true, true, true}, "-7": {true}, "-10": {true},
		"": {}, "-": {}, "-0": {}, "--1": {}, "+1": {}, " 1": {}, "1 ": {}, "1.5": {}, "1e5": {}, "x": {}, "\uff11": {}, "1/": {}, "1:": {},
		"00": {2: true}, "01": {2: true}, "-01": {},
	} {
		if IsWhole(s) != is[0] || IsNatural(s) != is[1] || IsDigits(s) != is[2] {
			t.Errorf("%q: %v %v %v", s, IsWhole(s), IsNatural(s), IsDigits(s))
		}
	}
	for _, s := range []string{"", "-", "5", "-5", "--5"} {
		if WithSign(CutSign(s)) != s {
			t.Errorf("%q was cut and not put together", s)
		}
	}
}

// R1: what is wrong with an exact number, in its order.
func TestRead(t *testing.T) {
	most := strings.Repeat("9", api.MaxDigits)
	long := "1" + strings.Repeat("0", api.MaxDigits)
	for _, c := range []struct {
		num, den string
		e        api.Errno
	}{
		{"0", "1", api.OK}, {"-3", "7", api.OK}, {most, "1", api.OK}, {"-" + most, "2", api.OK}, {"1", most, api.OK},
		{"", "1", api.ErrShape}, {"1", "", api.ErrShape}, {"1", "0", api.ErrShape}, {"1", "-1", api.ErrShape}, {"-0", "1", api.ErrShape}, {"0", "2", api.ErrShape}, {"6", "4", api.ErrShape},
		{long, "1", api.ErrLong}, {"1", long, api.ErrLong}, {"10", long, api.ErrLong}, {long, "0", api.ErrShape}, {"0", long, api.ErrShape}, {long, "x", api.ErrShape},
	} {
		a := api.Ratio{Num: c.num, Den: c.den}
		f, e := Read(a)
		if e != c.e {
			t.Errorf("%d and %d digits: %v, want %v", len(c.num), len(c.den), e, c.e)
			continue
		}
		if e != api.OK {
			if f.Neg || !f.Num.IsZero() || !f.Den.IsZero() {
				t.Errorf("something beside %v", e)
			}
			continue
		}
		if b, e := f.Ratio(); b != a || e != api.OK {
			t.Errorf("%s/%s comes back as %s/%s, %v", a.Num, a.Den, b.Num, b.Den, e)
		}
	}
}

// R2: what has too many digits, above or below.
func TestWrite(t *testing.T) {
	one, most := whole.Of(1), whole.Of(10).Pow(api.MaxDigits).Sub(whole.Of(1))
	for _, more := range []whole.Nat{most.Add(one), most.Mul(whole.Of(9)), most.Mul(most)} {
		for _, p := range [][2]whole.Nat{{more, one}, {one, more}, {more, most}} {
			if a, e := Write(true, p[0], p[1]); e != api.ErrLong || a != (api.Ratio{}) {
				t.Errorf("%d and %d bits: %v", p[0].BitLen(), p[1].BitLen(), e)
			}
		}
	}
	if a, e := Write(true, most, most.Sub(one)); e != api.OK || len(a.Num) != api.MaxDigits+1 || len(a.Den) != api.MaxDigits {
		t.Errorf("the longest one: %v", e)
	}
}

// What has a common divisor is written without it; nought is 0 by 1, and has no sign.
func TestWriteLowest(t *testing.T) {
	for _, c := range []struct {
		neg      bool
		num, den uint64
		wanted   api.Ratio
	}{
		{false, 6, 4, api.Ratio{Num: "3", Den: "2"}}, {true, 6, 4, api.Ratio{Num: "-3", Den: "2"}}, {false, 7, 7, api.Ratio{Num: "1", Den: "1"}}, {true, 5, 3, api.Ratio{Num: "-5", Den: "3"}},
		{false, 0, 9, api.Ratio{Num: "0", Den: "1"}}, {true, 0, 1, api.Ratio{Num: "0", Den: "1"}}, {false, 12, 1, api.Ratio{Num: "12", Den: "1"}}, {true, 1, 12, api.Ratio{Num: "-1", Den: "12"}},
	} {
		if a, e := WriteLowest(c.neg, whole.Of(c.num), whole.Of(c.den)); a != c.wanted || e != api.OK {
			t.Errorf("%d by %d: %v, %v", c.num, c.den, a, e)
		}
	}
	long := whole.Of(10).Pow(api.MaxDigits)
	if a, e := WriteLowest(false, long, whole.Of(3)); e != api.ErrLong || a != (api.Ratio{}) {
		t.Errorf("too long: %v", e)
	}
	if a, e := WriteLowest(false, long, long.Mul(whole.Of(3))); e != api.OK || a != (api.Ratio{Num: "1", Den: "3"}) {
		t.Errorf("long, but for what is common: %v, %v", a, e)
	}
}

// All parts are written by the same number, each in lowest terms; if one is too long, none is.
func TestWriteParts(t *testing.T) {
	parts := []whole.Nat{whole.Of(6), {}, whole.Of(7), whole.Of(4)}
	wanted := []api.Ratio{{Num: "3", Den: "2"}, {Num: "0", Den: "1"}, {Num: "7", Den: "4"}, {Num: "1", Den: "1"}}
	if l, e := WriteParts(parts, whole.Of(4)); !slices.Equal(l, wanted) || e != api.OK {
		t.Errorf("%v, %v", l, e)
	}
	if l, e := WriteParts(nil, whole.Of(4)); len(l) != 0 || e != api.OK {
		t.Errorf("no parts: %v, %v", l, e)
	}
	for at := range parts {
		long := slices.Clone(parts)
		long[at] = whole.Of(10).Pow(api.MaxDigits)
		if l, e := WriteParts(long, whole.Of(3)); l != nil || e != api.ErrLong {
			t.Errorf("a long part at %d: %d parts, %v", at, len(l), e)
		}
	}
}

// What is scaled by a power of two, up and down, is written in lowest terms.
func TestWriteScaled(t *testing.T) {
	for _, c := range []struct {
		neg    bool
		n      uint64
		exp    int
		wanted api.Ratio
	}{
		{false, 3, 2, api.Ratio{Num: "12", Den: "1"}}, {true, 3, 0, api.Ratio{Num: "-3", Den: "1"}}, {false, 3, -2, api.Ratio{Num: "3", Den: "4"}}, {true, 12, -1, api.Ratio{Num: "-6", Den: "1"}},
		{false, 12, -2, api.Ratio{Num: "3", Den: "1"}}, {true, 12, -5, api.Ratio{Num: "-3", Den: "8"}}, {true, 0, -5, api.Ratio{Num: "0", Den: "1"}}, {false, 0, 5, api.Ratio{Num: "0", Den: "1"}},
	} {
		if a, e := WriteScaled(c.neg, whole.Of(c.n), c.exp); a != c.wanted || e != api.OK {
			t.Errorf("%d times 2^%d: %v, %v", c.n, c.exp, a, e)
		}
	}
	for _, exp := range []int{MostBits, -MostBits} {
		if a, e := WriteScaled(true, whole.Of(1), exp); e != api.ErrLong || a != (api.Ratio{}) {
			t.Errorf("too long: %v", e)
		}
	}
}

func TestWays(t *testing.T) {
	for way := -1; way <= 8; way++ {
		if IsWay(way) != (way >= 1 && way <= 6) {
			t.Errorf("IsWay of %d: %v", way, IsWay(way))
		}
	}
	// Of each way: from 3 (odd) or 2 (even), below half, half, above half; then below nought.
	for way, wanted := range map[int]string{
		api.RoundFloor: "000000111111", api.RoundCeil: "111111000000", api.RoundDown: "000000000000", api.RoundUp: "111111111111",
		api.RoundHalfUp: "011011011011", api.RoundHalfEven: "011001011001",
	} {
		got := ""
		for _, neg := range []bool{false, true} {
			for _, odd := range []bool{true, false} {
				for half := -1; half <= 1; half++ {
					if IsAway(neg, odd, half, way) {
						got += "1"
					} else {
						got += "0"
					}
				}
			}
		}
		if got != wanted {
			t.Errorf("IsAway by %d: %s, want %s", way, got, wanted)
		}
	}
}
