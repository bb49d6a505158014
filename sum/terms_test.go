package sum_test

import (
	"fmt"
	"math"
	"math/big"
	"testing"

	"tontine/api"
	"tontine/sum"
)

// 4.1, 4.2: what is told of sums of one, two and three terms.
func TestFewTerms(t *testing.T) {
	check(t, "no term", sum.New(), know(nil))
	l := edges()
	for _, x := range l {
		check(t, told(x), put(t, sum.New(), ofFloats(x)...), know(ofFloats(x)))
		for _, y := range l {
			two, once := ofFloats(x, y), product(x, y)
			check(t, told(x)+" and "+told(y), put(t, sum.New(), two...), know(two))
			check(t, told(x)+" times "+told(y), put(t, sum.New(), once), know([]part{once}))
			three := []part{once, {x: x}, {x: -y}}
			check(t, told(x)+" times "+told(y)+", and others", put(t, sum.New(), three...), know(three))
		}
	}
}

// 4.1, 4.2: told in so many words, beside what the model of these tests says: what terms come to half to even, and by RoundFloor.
func TestEdges(t *testing.T) {
	top := times(two(971), 1<<53-1) // M's number
	for _, c := range []struct {
		what        string
		parts       []part
		text        string
		even, floor float64
	}{
		{"+0", ofFloats(0), "1 ---a- 0 1", 0, 0},
		{"-0 twice", ofFloats(minus, minus), "2 ----b 0 1", minus, minus},
		{"+0 twice", ofFloats(0, 0), "2 ---a- 0 1", 0, 0},
		{"what cancels", ofFloats(1, -1), "2 ---ab 0 1", 0, minus},
		{"what cancels among noughts", ofFloats(minus, 1, -1, minus), "4 ---ab 0 1", 0, minus},
		{"0 times -1", []part{product(0, -1)}, "1 ----b 0 1", minus, minus},
		{"-0 times -1", []part{product(minus, -1)}, "1 ---a- 0 1", 0, 0},
		{"-0 times -0", []part{product(minus, minus)}, "1 ---a- 0 1", 0, 0},
		{"0 times -0", []part{product(0, minus)}, "1 ----b 0 1", minus, minus},
		{"-0 times infinite", []part{product(minus, inf)}, "1 n--ab 0 1", none, none},
		{"infinite times 0", []part{product(-inf, 0)}, "1 n--ab 0 1", none, none},
		{"none times 0", []part{product(none, 0)}, "1 n--ab 0 1", none, none},
		{"1 times none", []part{product(1, none)}, "1 n--ab 0 1", none, none},
		{"none times infinite", []part{product(none, inf)}, "1 n--ab 0 1", none, none},
		{"none and 1", ofFloats(none, 1), "2 n--ab 1 1", none, none},
		{"infinite and -3", ofFloats(inf, -3), "2 -p-ab -3 1", inf, inf},
		{"infinite times -L", []part{product(inf, -least)}, "1 --mab 0 1", -inf, -inf},
		{"infinite times itself", []part{product(-inf, -inf)}, "1 -p-ab 0 1", inf, inf},
		{"infinite ones and none", ofFloats(inf, none, -inf), "3 npmab 0 1", none, none},
		{"L", ofFloats(least), "1 ---ab 1 " + two(1074).String(), least, least},
		{"L times L", []part{product(least, least)}, "1 ---ab 1 " + two(2148).String(), 0, 0},
		{"-L times L", []part{product(-least, least)}, "1 ---ab -1 " + two(2148).String(), minus, -least},
		{"M times M", []part{product(greatest, greatest)}, "1 ---ab " + new(big.Int).Mul(top, top).String() + " 1", inf, greatest},
		{"L times L and back", []part{product(least, least), {x: 1}, product(-least, least)}, "3 ---ab 1 1", 1, 1},
		{"M times M and back", []part{product(greatest, greatest), {x: 1}, product(-greatest, greatest)}, "3 ---ab 1 1", 1, 1},
		{"M times 2 less M", []part{product(greatest, 2), {x: -greatest}}, "2 ---ab " + top.String() + " 1", greatest, greatest},
		{"2^53 and what lies below the middle", []part{{x: 1 << 53}, {x: 1}, product(-least, least)}, "3 ---ab " + plus(two(2201, 2148), -1).String() + " " + two(2148).String(), 1 << 53, 1 << 53},
		{"2^53 and what lies above the middle", []part{{x: 1 << 53}, {x: 1}, product(least, least)}, "3 ---ab " + plus(two(2201, 2148), 1).String() + " " + two(2148).String(), 1<<53 + 2, 1 << 53},
	} {
		a := put(t, sum.New(), c.parts...)
		want(t, c.what, a.Text(), c.text)
		want(t, c.what+", half even", tell(a.Round(api.RoundHalfEven)), told(c.even))
		want(t, c.what+", floor", tell(a.Round(api.RoundFloor)), told(c.floor))
		check(t, c.what, a, know(c.parts))
	}
}

// 4.2: what cancels is +0, but by RoundFloor -0: by each of the six ways.
func TestWhatCancels(t *testing.T) {
	for _, parts := range [][]part{ofFloats(1, -1), ofFloats(least, -least), ofFloats(greatest, -greatest), ofFloats(0, minus), {product(least, least), product(least, -least)}, {product(greatest, greatest), product(greatest, -greatest)}, {product(0, 1), product(0, -1)}, ofFloats(0.5, 0.25, -0.75)} {
		for _, way := range ways {
			wanted := 0.0
			if way == api.RoundFloor {
				wanted = minus
			}
			want(t, fmt.Sprint(parts, " by ", way), tell(put(t, sum.New(), parts...).Round(way)), told(wanted))
		}
	}
}

// 4.2: by no way Round tells ErrRange, whatever the terms are; Value tells ErrNotFinite of n, p and m.
func TestRoundRefuses(t *testing.T) {
	for _, x := range append(edges(), anyFloat(random(1))) {
		for _, parts := range [][]part{nil, ofFloats(x), {product(x, 0)}, ofFloats(1, x)} {
			a := put(t, sum.New(), parts...)
			for _, way := range noWays {
				want(t, fmt.Sprint("Round by ", way), tell(a.Round(way)), api.ErrRange.Error())
			}
			check(t, "a sum behind what it refused", a, know(parts))
		}
	}
	for _, x := range []float64{inf, -inf, none} {
		want(t, "Value of "+told(x), tellRatio(put(t, sum.New(), ofFloats(1, x, 2)...).Value()), api.ErrNotFinite.Error())
	}
}

// 4.1, 4.2, 4.7: what is known of many terms hangs neither on their order nor on how they were dealt out.
func TestNoOrder(t *testing.T) {
	r := random(2)
	for i := range 400 {
		parts := anyParts(r, r.Intn(30), i%4)
		k := know(parts)
		check(t, fmt.Sprint(parts), put(t, sum.New(), parts...), k)
		r.Shuffle(len(parts), func(i, j int) { parts[i], parts[j] = parts[j], parts[i] })
		check(t, fmt.Sprint("shuffled ", parts), put(t, sum.New(), parts...), k)
		dealt := make([]*sum.Acc, 1+r.Intn(5))
		for i := range dealt {
			dealt[i] = sum.New()
		}
		for _, p := range parts {
			put(t, dealt[r.Intn(len(dealt))], p)
		}
		for len(dealt) > 1 { // merged in any order, all of them with one another
			at := r.Intn(len(dealt) - 1)
			if e := dealt[at].Merge(dealt[len(dealt)-1]); e != api.OK {
				t.Fatal(e)
			}
			dealt = dealt[:len(dealt)-1]
		}
		check(t, fmt.Sprint("dealt out ", parts), dealt[0], k)
	}
}

// 4.1: merging keeps what is merged as it was; a sum may be merged with itself, with one that has terms, with one that has none; a nil one is refused.
func TestMerge(t *testing.T) {
	r := random(3)
	for i := range 200 {
		p, q := anyParts(r, r.Intn(8), i%3), anyParts(r, r.Intn(8), i%3)
		a, b := put(t, sum.New(), p...), put(t, sum.New(), q...)
		if e := a.Merge(b); e != api.OK {
			t.Fatal(e)
		}
		both := append(append([]part{}, p...), q...)
		check(t, "merged", a, know(both))
		check(t, "what was merged", b, know(q))
		if e := a.Merge(a); e != api.OK {
			t.Fatal(e)
		}
		both = append(both, both...)
		check(t, "merged with itself", a, know(both))
		want(t, "nil", fmt.Sprint(a.Merge(nil)), fmt.Sprint(api.ErrNone))
		check(t, "behind a nil one", a, know(both))
		put(t, b, product(3, least))
		check(t, "what was merged with another one that went on", a, know(both))
		put(t, a, part{x: -7})
		check(t, "what went on", a, know(append(both, part{x: -7})))
		check(t, "what was merged, and went on", b, know(append(q, product(3, least))))
	}
}

// 4.1: a carry, or a borrow, goes through all words of a sum.
func TestCarries(t *testing.T) {
	for _, sign := range []float64{1, -1} {
		var parts []part
		for e := -1074; e <= 1023; e += 53 { // a row of set bits without a gap, as far as floats go
			parts = append(parts, part{x: sign * math.Ldexp(1<<53-1, min(e, 971))})
		}
		for _, more := range [][]part{nil, ofFloats(sign * least), ofFloats(-sign * least), {product(least, sign*least)}, {product(least, -sign*least)}, {product(greatest, -sign*greatest)}, {product(greatest, -sign*greatest), product(least, sign*least)}} {
			all := append(append([]part{}, more...), parts...)
			a := put(t, sum.New(), all...)
			check(t, fmt.Sprint("a row and ", more), a, know(all))
			back := all
			for _, p := range all {
				p.x = -p.x
				back = append(back, p)
			}
			check(t, fmt.Sprint("a row and ", more, ", and back"), put(t, a, back[len(all):]...), know(back))
		}
	}
}

// 4.1: MaxTerms terms, and one more.
func TestTooManyTerms(t *testing.T) {
	const half = "549755813888" // 2^39
	for _, number := range []string{"---ab 5 2", "---ab " + two(2086).String() + " 1", "---ab -" + two(2086).String() + " 1", "---a- 0 1", "n--ab -1 4"} {
		full := mustRead(t, "1099511627776 "+number)
		if full.Count() != api.MaxTerms {
			t.Fatalf("%d terms", full.Count())
		}
		some := put(t, sum.New(), ofFloats(1)...)
		text := full.Text()
		refused(t, "Add", full.Add(1))
		refused(t, "Add none", full.Add(none))
		refused(t, "AddProduct", full.AddProduct(2, inf))
		refused(t, "Merge", full.Merge(some))
		refused(t, "Merge with itself", full.Merge(full))
		refused(t, "Merge with a full one", some.Merge(full))
		want(t, "nil", fmt.Sprint(full.Merge(nil)), fmt.Sprint(api.ErrNone))
		want(t, "a full one, behind what it refused", full.Text(), text)
		check(t, "one that refused a full one", some, know(ofFloats(1)))
		if e := full.Merge(sum.New()); e != api.OK {
			t.Errorf("none more: %v", e)
		}
		want(t, "a full one, and none more", full.Text(), text)
		empty := sum.New()
		if e := empty.Merge(full); e != api.OK {
			t.Errorf("a full one to none: %v", e)
		}
		want(t, "a full one to none", empty.Text(), text)
		a := mustRead(t, half+" "+number)
		if e := a.Merge(a); e != api.OK || a.Count() != api.MaxTerms {
			t.Errorf("two halves: %v, %d terms", e, a.Count())
		}
		refused(t, "two halves and one", a.Add(0))
	}
	a := mustRead(t, "1099511627775 ---a- 0 1")
	for _, more := range []func() api.Errno{func() api.Errno { return a.Add(minus) }, func() api.Errno { return a.AddProduct(1, 1) }, func() api.Errno { return a.Merge(put(t, sum.New(), part{x: 1})) }} {
		a = mustRead(t, "1099511627775 ---a- 0 1")
		if e := more(); e != api.OK || a.Count() != api.MaxTerms {
			t.Errorf("the last one: %v, %d terms", e, a.Count())
		}
		refused(t, "one more", more())
	}
	a = mustRead(t, "1099511627775 ---a- 0 1")
	refused(t, "two more", a.Merge(put(t, sum.New(), ofFloats(1, 2)...)))
	want(t, "behind two more", a.Text(), "1099511627775 ---a- 0 1")
}

func refused(t *testing.T, what string, e api.Errno) {
	t.Helper()
	if e != api.ErrTerms {
		t.Errorf("%s: %v", what, e)
	}
}
