package span_test

import (
	"fmt"
	"math"
	"math/big"
	"math/rand"
	"testing"

	"tontine/api"
	"tontine/span"
)

var (
	inf   = math.Inf(1)
	none  = math.NaN()
	minus = math.Copysign(0, -1) // -0

	greatest    = math.MaxFloat64             // M
	least       = math.SmallestNonzeroFloat64 // L
	leastNormal = math.Ldexp(1, -1022)
)

var line = api.Span{Lo: -inf, Hi: inf} // the whole line

func of(lo, hi float64) api.Span { return api.Span{Lo: lo, Hi: hi} }

func point(x float64) api.Span { return of(x, x) }

// points are a point of each.
func points(l ...float64) []api.Span {
	var spans []api.Span
	for _, x := range l {
		spans = append(spans, point(x))
	}
	return spans
}

func want(t *testing.T, what, got, want string) {
	t.Helper()
	if got != want {
		t.Errorf("%s: %s, want %s", short(what), short(got), short(want))
	}
}

// short is a text that may be very long, so that it can be told.
func short(s string) string {
	if len(s) <= 300 {
		return s
	}
	return fmt.Sprintf("%s..%s (%d bytes)", s[:140], s[len(s)-140:], len(s))
}

// told is a float, bit by bit; all that are none are alike (R8).
func told(x float64) string {
	if x != x {
		return "none"
	}
	return fmt.Sprintf("%x (%g)", math.Float64bits(x), x)
}

func toldSpan(a api.Span) string { return "from " + told(a.Lo) + " to " + told(a.Hi) }

// tell is what a call answered, as a text; what stands beside an error must be nothing (R5).
func tell(a api.Span, e api.Errno) string {
	if e != api.OK {
		if math.Float64bits(a.Lo) != 0 || math.Float64bits(a.Hi) != 0 {
			return "something beside " + e.Error()
		}
		return e.Error()
	}
	return toldSpan(a)
}

func tellBool(yes bool, e api.Errno) string {
	if e != api.OK {
		if yes {
			return "something beside " + e.Error()
		}
		return e.Error()
	}
	return fmt.Sprint(yes)
}

func tellInt(n int, e api.Errno) string {
	if e != api.OK {
		if n != 0 {
			return "something beside " + e.Error()
		}
		return e.Error()
	}
	return fmt.Sprint(n)
}

func tellFloat(x float64, e api.Errno) string {
	if e != api.OK {
		if math.Float64bits(x) != 0 {
			return "something beside " + e.Error()
		}
		return e.Error()
	}
	return told(x)
}

func tellRatio(a api.Ratio, e api.Errno) string {
	if e != api.OK {
		if a != (api.Ratio{}) {
			return "something beside " + e.Error()
		}
		return e.Error()
	}
	return a.Num + "/" + a.Den
}

func tellText(s string, e api.Errno) string {
	if e != api.OK {
		if s != "" {
			return "something beside " + e.Error()
		}
		return e.Error()
	}
	return s
}

// must is a span that was to be answered without an error, and to be right.
func must(t *testing.T) func(a api.Span, e api.Errno) api.Span {
	return func(a api.Span, e api.Errno) api.Span {
		t.Helper()
		if e != api.OK || span.Check(a) != api.OK {
			t.Fatalf("%s, %v", toldSpan(a), e)
		}
		return a
	}
}

// number is an exact number, or, if it has no r, what lies beyond all on the side of beyond (-1, 1).
type number struct {
	r      *big.Rat
	beyond int
}

func far(side int) number { return number{beyond: side} }

func rat(x float64) *big.Rat { return new(big.Rat).SetFloat64(x) }

func numberOf(x float64) number {
	if math.IsInf(x, 0) {
		return far(int(math.Copysign(1, x)))
	}
	return number{r: rat(x)}
}

func (n number) sign() int {
	if n.r == nil {
		return n.beyond
	}
	return n.r.Sign()
}

func (n number) cmp(m number) int {
	if n.r == nil || m.r == nil {
		return n.beyond - m.beyond
	}
	return n.r.Cmp(m.r)
}

func (n number) negated() number {
	if n.r == nil {
		return far(-n.beyond)
	}
	return number{r: new(big.Rat).Neg(n.r)}
}

// plus is the bound of sums whose parts have these bounds on the same side.
func (n number) plus(m number) number {
	switch {
	case n.r == nil:
		return n
	case m.r == nil:
		return m
	}
	return number{r: new(big.Rat).Add(n.r, m.r)}
}

func (n number) times(m number) number {
	switch {
	case n.sign() == 0 || m.sign() == 0:
		return number{r: new(big.Rat)}
	case n.r == nil || m.r == nil:
		return far(n.sign() * m.sign())
	}
	return number{r: new(big.Rat).Mul(n.r, m.r)}
}

// bounds are the greatest number that is not above any of some numbers and the least one that is not below any.
type bounds struct{ low, high number }

func boundsOf(a api.Span) bounds { return bounds{numberOf(a.Lo), numberOf(a.Hi)} }

func (b bounds) negated() bounds { return bounds{b.high.negated(), b.low.negated()} }

func (b bounds) plus(c bounds) bounds { return bounds{b.low.plus(c.low), b.high.plus(c.high)} }

func (b bounds) isNought() bool { return b.low.sign() == 0 && b.high.sign() == 0 }

// times goes by the signs, not by looking among four, but where both have both signs.
func (b bounds) times(c bounds) bounds {
	switch {
	case b.isNought():
		return b
	case c.isNought():
		return c
	case b.high.sign() <= 0:
		return b.negated().times(c).negated()
	case c.high.sign() <= 0 || b.low.sign() < 0 && c.low.sign() >= 0:
		return c.times(b)
	case b.low.sign() >= 0 && c.low.sign() >= 0:
		return bounds{b.low.times(c.low), b.high.times(c.high)}
	case b.low.sign() >= 0:
		return bounds{b.high.times(c.low), b.high.times(c.high)}
	}
	low, high := b.low.times(c.high), b.high.times(c.high)
	if other := b.high.times(c.low); other.cmp(low) < 0 {
		low = other
	}
	if other := b.low.times(c.low); other.cmp(high) > 0 {
		high = other
	}
	return bounds{low, high}
}

// inverse is the bounds of 1 by all numbers but nought, which are all on one side of it.
func (b bounds) inverse() bounds {
	if b.high.sign() <= 0 {
		return b.negated().inverse().negated()
	}
	return bounds{b.high.inverse(), b.low.inverse()}
}

// inverse is 1 by a number above nought, or by what comes down to nought.
func (n number) inverse() number {
	switch {
	case n.r == nil:
		return number{r: new(big.Rat)}
	case n.r.Sign() == 0:
		return far(1)
	}
	return number{r: new(big.Rat).Inv(n.r)}
}

// by is the bounds of quotients, c being not nought alone.
func (b bounds) by(c bounds) bounds {
	switch {
	case b.isNought():
		return b
	case c.low.sign() < 0 && c.high.sign() > 0:
		return bounds{far(-1), far(1)}
	}
	return b.times(c.inverse())
}

// to is the bounds of powers.
func (b bounds) to(n int) bounds {
	power := func(x number) number {
		p := number{r: big.NewRat(1, 1)}
		for range n {
			p = p.times(x)
		}
		return p
	}
	low, high := power(b.low), power(b.high)
	switch {
	case n%2 == 1 || n == 0 || b.low.sign() >= 0:
		return bounds{low, high}
	case b.high.sign() <= 0:
		return bounds{high, low}
	case low.cmp(high) > 0:
		high = low
	}
	return bounds{number{r: new(big.Rat)}, high}
}

// span is the span of the numbers that have these bounds, by the chapter's Words.
func (b bounds) span() api.Span { return of(b.low.down(), -b.high.negated().down()+0) }

// down is the greatest float that is not above n.
func (n number) down() float64 {
	if n.r == nil {
		return math.Inf(n.beyond)
	}
	x, _ := n.r.Float64() // the nearest one
	switch {
	case math.IsInf(x, 1):
		return greatest
	case !math.IsInf(x, -1) && rat(x).Cmp(n.r) > 0:
		x = math.Nextafter(x, -inf)
	}
	return x + 0
}

// edges are floats from the least to the greatest one, with those that the chapter names.
func edges() []float64 {
	up := []float64{least, leastNormal, 0x1p-600, 0.1, 1, 1.5, 0x1p600, greatest, inf}
	l := []float64{0}
	for _, x := range up {
		l = append(l, x)
		l = append([]float64{-x}, l...)
	}
	return l
}

// edgeSpans are all right spans whose ends are edges.
func edgeSpans() []api.Span {
	var l []api.Span
	for _, lo := range edges() {
		for _, hi := range edges() {
			if lo <= hi && lo < inf && hi > -inf {
				l = append(l, of(lo, hi))
			}
		}
	}
	return l
}

// wrongSpans are such as are not right, each for one of the reasons that there are.
func wrongSpans() []api.Span {
	l := []api.Span{of(inf, inf), of(-inf, -inf), of(inf, -inf), of(1, 0), of(0, -least), of(least, 0), of(inf, 1), of(-1, -inf), of(math.Nextafter(1, 2), 1), of(minus, -1), of(1, minus)}
	for _, x := range append(edges(), none, minus) {
		l = append(l, of(none, x), of(x, none))
		if x >= 0 {
			l = append(l, of(minus, x))
		}
		if x <= 0 {
			l = append(l, of(x, minus))
		}
	}
	return l
}

func random(seed int64) *rand.Rand { return rand.New(rand.NewSource(seed)) }

// anyFloat is finite and no nought; every other one lies near 1, so that sums meet.
func anyFloat(r *rand.Rand) float64 {
	for {
		x := math.Float64frombits(r.Uint64())
		if r.Intn(2) == 0 {
			x = math.Ldexp(r.Float64()-0.5, r.Intn(80)-40)
		}
		if x-x == 0 && x != 0 {
			return x
		}
	}
}

// anySpan is wide or narrow, a point, with a nought, without a bound.
func anySpan(r *rand.Rand) api.Span {
	x, y := anyFloat(r), anyFloat(r)
	switch r.Intn(12) {
	case 0:
		y = x
	case 1, 2, 3:
		y = math.Nextafter(x, inf)
	case 4:
		y = 0
	case 5:
		y = math.Inf(1 - 2*r.Intn(2))
	case 6:
		y = edges()[r.Intn(19)]
	case 7:
		y = x * (1 + r.Float64())
	}
	return of(min(x, y)+0, max(x, y)+0)
}

func anySpans(r *rand.Rand, n int) []api.Span {
	var l []api.Span
	for range n {
		l = append(l, anySpan(r))
	}
	return l
}

// finiteSpan is one with both bounds.
func finiteSpan(r *rand.Rand) api.Span {
	for {
		if a := anySpan(r); !math.IsInf(a.Lo, 0) && !math.IsInf(a.Hi, 0) {
			return a
		}
	}
}

// inside is an exact number of a span: an end, or one between, or far out.
func inside(r *rand.Rand, a api.Span) *big.Rat {
	lo, hi := a.Lo, a.Hi
	if math.IsInf(lo, 0) {
		lo = min(hi, -1e300)
	}
	if math.IsInf(hi, 0) {
		hi = max(lo, 1e300)
	}
	switch r.Intn(4) {
	case 0:
		return rat(lo)
	case 1:
		return rat(hi)
	}
	part := big.NewRat(r.Int63n(1000), 999)
	part.Mul(part, big.NewRat(999, 1000))
	width := new(big.Rat).Sub(rat(hi), rat(lo))
	return width.Add(rat(lo), width.Mul(width, part))
}

// ratio is an exact number as the calls are given it.
func ratio(r *big.Rat) api.Ratio {
	return api.Ratio{Num: r.Num().String(), Den: r.Denom().String()}
}

// holds tells whether r is in a, without the package's help.
func holds(a api.Span, r *big.Rat) bool {
	return (math.IsInf(a.Lo, 0) || rat(a.Lo).Cmp(r) <= 0) && (math.IsInf(a.Hi, 0) || rat(a.Hi).Cmp(r) >= 0)
}
