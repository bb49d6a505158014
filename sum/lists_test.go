package sum_test

import (
	"fmt"
	"math"
	"math/big"
	"slices"
	"testing"

	"tontine/api"
	"tontine/float"
	"tontine/sum"
)

// listOf is the floats of parts, without what they were to be multiplied by.
func listOf(parts []part) []float64 {
	var l []float64
	for _, p := range parts {
		l = append(l, p.x)
	}
	return l
}

// 4.4: Exact is what the sum comes to.
func TestExact(t *testing.T) {
	r := random(10)
	lists := [][]float64{nil, {}, {0}, {minus}, {0, minus}, {minus, minus}, {1, -1}, {inf}, {inf, -inf}, {none}, {least}, {greatest, greatest, -greatest}, {least, greatest, -greatest}, {1, 0x1p-53}, {1, 0x1p-53, least}, {1, 0x1p-53, -least}, {greatest, 0x1p970}, {greatest, 0x1p970, -least}}
	for i := range 300 {
		lists = append(lists, listOf(anyParts(r, r.Intn(40), i%3)))
	}
	for _, l := range lists {
		for _, way := range ways {
			want(t, fmt.Sprint("Exact of ", l, " by ", way), tell(sum.Exact(l, way)), told(know(ofFloats(l...)).comesTo(way)))
		}
		for _, way := range noWays {
			want(t, "Exact by no way", tell(sum.Exact(l, way)), api.ErrRange.Error())
		}
	}
	want(t, "a middle and more", tell(sum.Exact([]float64{1, 0x1p-53, least}, api.RoundHalfEven)), told(math.Nextafter(1, 2)))
	want(t, "a middle", tell(sum.Exact([]float64{1, 0x1p-53}, api.RoundHalfEven)), told(1))
}

// 4.4: Dot is what the sum of the products comes to.
func TestDot(t *testing.T) {
	r := random(11)
	for i := range 300 {
		parts := anyParts(r, r.Intn(30), i%3)
		var x, y []float64
		for i, p := range parts {
			x, y = append(x, p.x), append(y, p.y)
			parts[i].isProduct = true
		}
		for _, way := range ways {
			want(t, fmt.Sprint("Dot of ", x, " and ", y, " by ", way), tell(sum.Dot(x, y, way)), told(know(parts).comesTo(way)))
			want(t, "turned about", tell(sum.Dot(y, x, way)), tell(sum.Dot(x, y, way))) // 4.10
		}
	}
	for _, way := range ways {
		want(t, "Dot of none", tell(sum.Dot(nil, []float64{}, way)), told(0))
		want(t, "Dot of a nought and an infinite one", tell(sum.Dot([]float64{1, 0}, []float64{1, inf}, way)), "none")
		want(t, "Dot of -0 and 1", tell(sum.Dot([]float64{minus}, []float64{1}, way)), told(minus))
	}
}

// 4.4 to 4.6: lists that are too long and of unlike lengths, ways that are none, and which of two comes first.
func TestListsRefused(t *testing.T) {
	most, long := make([]float64, api.MaxItems), make([]float64, api.MaxItems+1)
	long[0] = none
	for _, way := range append(noWays, ways...) {
		want(t, "Exact", tell(sum.Exact(long, way)), api.ErrLong.Error())
		for _, other := range [][]float64{nil, {1}, most, long} {
			want(t, "Dot, the first too long", tell(sum.Dot(long, other, way)), api.ErrLong.Error())
			want(t, "Dot, the second too long", tell(sum.Dot(other, long, way)), api.ErrLong.Error())
		}
		for _, pair := range [][2][]float64{{nil, {1}}, {{1}, nil}, {{1, 2}, {1, 2, 3}}, {{none}, {}}, {most, most[1:]}, {most[1:], most}} {
			want(t, "Dot of unlike lengths", tell(sum.Dot(pair[0], pair[1], way)), api.ErrPairs.Error())
		}
	}
	for _, way := range noWays {
		want(t, "Dot by no way", tell(sum.Dot(most, most, way)), api.ErrRange.Error())
		want(t, "Dot of none by no way", tell(sum.Dot(nil, nil, way)), api.ErrRange.Error())
		want(t, "Exact by no way", tell(sum.Exact(most, way)), api.ErrRange.Error())
	}
	want(t, "Ordered", tell(sum.Ordered(long)), api.ErrLong.Error())
	want(t, "Halves", tell(sum.Halves(long)), api.ErrLong.Error())
	want(t, "Kept", tellTwo(sum.Kept(long)), tellTwo(0, 0, api.ErrLong))
	for _, steps := range []int{-1, 0, 1, 1<<52 + 1} {
		want(t, "Bound", tellRatio(sum.Bound(long, steps)), api.ErrLong.Error())
	}
}

// 4.4 to 4.6: the longest lists.
func TestLongestLists(t *testing.T) {
	r := random(12)
	l := anyList(r, api.MaxItems)
	ones := slices.Repeat([]float64{1}, len(l))
	k := know(ofFloats(l...))
	for _, way := range ways {
		want(t, "Exact", tell(sum.Exact(l, way)), told(k.comesTo(way)))
		want(t, "Dot", tell(sum.Dot(l, ones, way)), told(k.comesTo(way)))
	}
	want(t, "Ordered", tell(sum.Ordered(l)), told(orderedOf(l)))
	want(t, "Halves", tell(sum.Halves(l)), told(halvesOf(l)))
	want(t, "Halves of ones", tell(sum.Halves(ones)), told(api.MaxItems))
	want(t, "Kept", tellTwo(sum.Kept(l)), tellTwo(keptOf(l)))
	want(t, "Bound", tellRatio(sum.Bound(l, 1<<52)), boundOf(l, 1<<52))
}

// add is a sum of two, rounded half to even by layer 2, not by the language.
func add(x, y float64) float64 {
	s, _, _ := float.Add(x, y, api.RoundHalfEven)
	return s
}

func orderedOf(l []float64) float64 {
	s := 0.0
	for _, x := range l {
		s = add(s, x)
	}
	return s
}

func halvesOf(l []float64) float64 {
	n := len(l)
	switch n {
	case 0:
		return 0
	case 1:
		return l[0]
	}
	return add(halvesOf(l[:n/2]), halvesOf(l[n/2:]))
}

func keptOf(l []float64) (float64, float64, api.Errno) {
	s, c := 0.0, 0.0
	for _, x := range l {
		t := add(s, x)
		lost := add(add(x, -t), s)
		if math.Abs(s) >= math.Abs(x) {
			lost = add(add(s, -t), x)
		}
		s, c = t, add(c, lost)
	}
	return add(s, c), c, api.OK
}

// 4.5: the sums that lose something, step by step.
func TestRoundedSteps(t *testing.T) {
	r := random(13)
	lists := [][]float64{nil, {}}
	for _, x := range edges() {
		lists = append(lists, []float64{x}, []float64{x, minus}, []float64{1, x, -1}, []float64{x, x, -x, 0x1p-60})
		for _, y := range edges() {
			lists = append(lists, []float64{x, y})
		}
	}
	for n := range 70 {
		lists = append(lists, anyList(r, n), listOf(anyParts(r, n, n%3)), anyList(r, n))
	}
	for _, l := range lists {
		what := fmt.Sprint(" of ", l)
		want(t, "Ordered"+what, tell(sum.Ordered(l)), told(orderedOf(l)))
		want(t, "Halves"+what, tell(sum.Halves(l)), told(halvesOf(l)))
		want(t, "Kept"+what, tellTwo(sum.Kept(l)), tellTwo(keptOf(l)))
	}
}

// 4.5: told in so many words: of noughts, of what the order changes, of which half is the longer one, of what is lost and kept.
func TestStepsInWords(t *testing.T) {
	for _, c := range []struct {
		l               []float64
		ordered, halves float64
		kept, lost      float64
	}{
		{nil, 0, 0, 0, 0},
		{[]float64{minus}, 0, minus, 0, 0},
		{[]float64{minus, minus}, 0, minus, 0, 0},
		{[]float64{1, 0x1p-53, 0x1p-53}, 1, 1 + 0x1p-52, 1 + 0x1p-52, 0x1p-52},
		{[]float64{0x1p-53, 0x1p-53, 1}, 1 + 0x1p-52, 1, 1 + 0x1p-52, 0},
		{[]float64{0x1p-53, 0x1p-53, 1, 1, 0x1p-53}, 2, 2, 2 + 0x1p-51, 0x1p-52 + 0x1p-53},
		{[]float64{1, 0x1p100, 1, -0x1p100}, 0, 0, 2, 2},
		{[]float64{greatest, greatest}, inf, inf, none, -inf},
		{[]float64{inf}, inf, inf, none, none},
		{[]float64{none, 1}, none, none, none, none},
	} {
		what := fmt.Sprint(" of ", c.l)
		want(t, "Ordered"+what, tell(sum.Ordered(c.l)), told(c.ordered))
		want(t, "Halves"+what, tell(sum.Halves(c.l)), told(c.halves))
		want(t, "Kept"+what, tellTwo(sum.Kept(c.l)), tellTwo(c.kept, c.lost, api.OK))
	}
}

// sizes is the exact sum of all sizes.
func sizes(l []float64) *big.Rat {
	all := new(big.Int)
	for _, x := range l {
		all.Add(all, part{x: math.Abs(x)}.units())
	}
	return inUnits(all)
}

func boundOf(l []float64, steps int64) string {
	part := new(big.Rat).SetFrac64(steps, 1<<53)
	part.Quo(part, new(big.Rat).Sub(big.NewRat(1, 1), part))
	return ratioText(part.Mul(part, sizes(l)))
}

// 4.6.
func TestBound(t *testing.T) {
	r := random(14)
	lists := [][]float64{nil, {}, {0}, {minus, 0}, {1, 1}, {1, -1}, {-1}, {least}, {greatest}, {greatest, least, -greatest}, {3, 0.1}, {1 << 52, -0x1p-1074}}
	for n := range 40 {
		lists = append(lists, anyList(r, n))
	}
	for _, l := range lists {
		for _, steps := range []int{0, 1, 2, 3, 4095, 1<<51 + 1, 1<<52 - 1, 1 << 52} {
			want(t, fmt.Sprint("Bound of ", l, " and ", steps), tellRatio(sum.Bound(l, steps)), boundOf(l, int64(steps)))
		}
		for _, steps := range []int{-1, 1<<52 + 1, 1 << 53, math.MinInt, math.MaxInt} {
			want(t, "Bound of steps out of their range", tellRatio(sum.Bound(l, steps)), api.ErrRange.Error())
		}
		for _, x := range []float64{inf, -inf, none} {
			for _, steps := range []int{0, 1, 1 << 52, -1, 1<<52 + 1, math.MinInt} {
				want(t, "Bound beside "+told(x), tellRatio(sum.Bound(append(slices.Clone(l), x), steps)), api.ErrNotFinite.Error())
				want(t, "Bound behind "+told(x), tellRatio(sum.Bound(append([]float64{x}, l...), steps)), api.ErrNotFinite.Error())
			}
		}
	}
	want(t, "no steps", tellRatio(sum.Bound([]float64{greatest, least}, 0)), "0/1")
	want(t, "2^52 steps", tellRatio(sum.Bound([]float64{3, -4}, 1<<52)), "7/1")
	want(t, "of infinite ones that would cancel", tellRatio(sum.Bound([]float64{inf, -inf}, 1)), api.ErrNotFinite.Error())
}

// 4.9: no sum is farther from the exact one than it may be.
func TestHigham(t *testing.T) {
	r := random(15)
	farther := func(x float64, exact *big.Rat, bound string) bool {
		most, _ := new(big.Rat).SetString(bound)
		far := new(big.Rat).Sub(new(big.Rat).SetFloat64(x), exact)
		return far.Abs(far).Cmp(most) > 0
	}
	for range 600 {
		l := anyList(r, 1+r.Intn(70))
		exact := inUnits(know(ofFloats(l...)).number)
		if x, _ := sum.Ordered(l); x-x == 0 && farther(x, exact, tellRatio(sum.Bound(l, len(l)-1))) {
			t.Errorf("Ordered of %v is too far away", l)
		}
		d := 0
		for 1<<d < len(l) {
			d++
		}
		if x, _ := sum.Halves(l); x-x == 0 && farther(x, exact, tellRatio(sum.Bound(l, d))) {
			t.Errorf("Halves of %v is too far away", l)
		}
	}
}

// 4.10: a list and behind it all of it with the other sign; ones for y; RoundFloor and RoundCeil.
func TestExactFollows(t *testing.T) {
	r := random(16)
	for range 300 {
		l := listOf(anyParts(r, r.Intn(30), 0))
		both := slices.Clone(l)
		for _, x := range l {
			both = append(both, -x)
		}
		ones := slices.Repeat([]float64{1}, len(l))
		want(t, "the exact sum", tellRatio(put(t, sum.New(), ofFloats(both...)...).Value()), "0/1")
		for _, way := range ways {
			if x, e := sum.Exact(both, way); x != 0 || e != api.OK {
				t.Errorf("Exact of %v by %d: %g, %v", both, way, x, e)
			}
			x, _ := sum.Exact(l, way)
			y, _ := sum.Dot(l, ones, way)
			if x != y {
				t.Errorf("Dot of %v and ones by %d: %g, Exact %g", l, way, y, x)
			}
		}
		value, e := put(t, sum.New(), ofFloats(l...)...).Value()
		exact := rat(t, value, e)
		low, _ := sum.Exact(l, api.RoundFloor)
		high, _ := sum.Exact(l, api.RoundCeil)
		if low != -inf && new(big.Rat).SetFloat64(low).Cmp(exact) > 0 || high != inf && new(big.Rat).SetFloat64(high).Cmp(exact) < 0 || low == inf || high == -inf {
			t.Errorf("Exact of %v: from %g to %g", l, low, high)
		}
	}
}
