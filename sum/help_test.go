package sum_test

import (
	"fmt"
	"math"
	"math/big"
	"math/rand"
	"strconv"
	"testing"

	"tontine/api"
	"tontine/sum"
)

var ways = []int{api.RoundFloor, api.RoundCeil, api.RoundDown, api.RoundUp, api.RoundHalfUp, api.RoundHalfEven}

// noWays are ways that are none of the six.
var noWays = []int{0, -1, 7, math.MinInt, math.MaxInt}

var (
	inf   = math.Inf(1)
	none  = math.NaN()
	minus = math.Copysign(0, -1) // -0

	greatest    = math.MaxFloat64             // M
	least       = math.SmallestNonzeroFloat64 // L
	leastNormal = math.Ldexp(1, -1022)
)

func want(t *testing.T, what, got, want string) {
	t.Helper()
	if got != want {
		t.Errorf("%s: %s, want %s", short(what), short(got), short(want))
	}
}

// short is a text that may be very long, so that it can be told.
func short(s string) string {
	if len(s) <= 240 {
		return s
	}
	return fmt.Sprintf("%s..%s (%d bytes)", s[:110], s[len(s)-110:], len(s))
}

// told is a float, bit by bit; all that are none are alike (R8).
func told(x float64) string {
	if x != x {
		return "none"
	}
	return fmt.Sprintf("%x (%g)", math.Float64bits(x), x)
}

// tell is what a call answered, as a text; what stands beside an error must be nothing (R5).
func tell(x float64, e api.Errno) string {
	if e != api.OK {
		if math.Float64bits(x) != 0 {
			return "something beside " + e.Error()
		}
		return e.Error()
	}
	return told(x)
}

func tellTwo(x, y float64, e api.Errno) string {
	if e != api.OK {
		return tell(x, e) + tell(y, e)
	}
	return told(x) + " and " + told(y)
}

func tellRatio(a api.Ratio, e api.Errno) string {
	if e != api.OK {
		if a != (api.Ratio{}) {
			return "a number beside " + e.Error()
		}
		return e.Error()
	}
	return a.Num + "/" + a.Den
}

// tellRead is the text of what was read, or the fault.
func tellRead(a *sum.Acc, f api.Fault) string {
	switch {
	case a == nil:
		return fault(f.At, f.Code)
	case f != (api.Fault{}):
		return "a sum beside a fault"
	}
	return a.Text()
}

func fault(at int, e api.Errno) string { return fmt.Sprint("fault ", at, " ", int(e)) }

func mustRead(t *testing.T, s string) *sum.Acc {
	t.Helper()
	a, f := sum.Read(s)
	if a == nil {
		t.Fatalf("Read of %s: %v", short(s), f)
	}
	return a
}

// two is 2 to the n, n from 0 on; of several the sum of all.
func two(l ...int) *big.Int {
	all := new(big.Int)
	for _, n := range l {
		all.Add(all, new(big.Int).Lsh(big.NewInt(1), uint(n)))
	}
	return all
}

func plus(x *big.Int, n int64) *big.Int { return new(big.Int).Add(x, big.NewInt(n)) }

func times(x *big.Int, n int64) *big.Int { return new(big.Int).Mul(x, big.NewInt(n)) }

// unit: sums are held as whole numbers of 2 to the -unit here, whose size is that of the product of two of the least floats.
const unit = 2148

// inUnits is a number of units as an exact number.
func inUnits(n *big.Int) *big.Rat { return new(big.Rat).SetFrac(n, two(unit)) }

func ratioText(r *big.Rat) string { return r.Num().String() + "/" + r.Denom().String() }

// part is a term: the float x, or the product of x and y.
type part struct {
	x, y      float64
	isProduct bool
}

func ofFloats(l ...float64) []part {
	var parts []part
	for _, x := range l {
		parts = append(parts, part{x: x})
	}
	return parts
}

func product(x, y float64) part { return part{x, y, true} }

// kind is what a part is, in one letter (none, infinite, nought, finite), and whether it has the sign bit.
func (p part) kind() (byte, bool) {
	if !p.isProduct {
		p.y = 1
	}
	neg := math.Signbit(p.x) != math.Signbit(p.y)
	infinite := math.IsInf(p.x, 0) || math.IsInf(p.y, 0)
	nought := p.x == 0 || p.y == 0
	switch {
	case p.x != p.x || p.y != p.y || infinite && nought:
		return 'n', false
	case infinite:
		return 'i', neg
	case nought:
		return '0', neg
	}
	return 'f', neg
}

// units is a finite part as a number of units.
func (p part) units() *big.Int {
	n, exp := wholeOf(p.x)
	if p.isProduct {
		m, e := wholeOf(p.y)
		n, exp = n.Mul(n, m), exp+e
	}
	if exp+unit < 0 {
		panic("a part that is no number of units")
	}
	return n.Lsh(n, uint(exp+unit))
}

// wholeOf is a finite float as a whole number times 2 to the exp, which is not below -1074.
func wholeOf(x float64) (*big.Int, int) {
	fraction, exp := math.Frexp(x)
	up := min(53, exp+1074)
	return big.NewInt(int64(math.Ldexp(fraction, up))), exp - up
}

// known is what a sum knows of parts, by the chapter's Words.
type known struct {
	count  int
	marks  string
	number *big.Int // in units
}

func know(parts []part) known {
	has := map[byte]bool{}
	k := known{count: len(parts), number: new(big.Int)}
	for _, p := range parts {
		kind, neg := p.kind()
		has['n'] = has['n'] || kind == 'n'
		has['p'] = has['p'] || kind == 'i' && !neg
		has['m'] = has['m'] || kind == 'i' && neg
		has['a'] = has['a'] || kind != '0' || !neg
		has['b'] = has['b'] || kind != '0' || neg
		if kind == 'f' {
			k.number.Add(k.number, p.units())
		}
	}
	for _, c := range []byte("npmab") {
		if has[c] {
			k.marks += string(c)
		} else {
			k.marks += "-"
		}
	}
	return k
}

func (k known) has(mark byte) bool {
	for i := range len(k.marks) {
		if k.marks[i] == mark {
			return true
		}
	}
	return false
}

func (k known) text() string {
	r := inUnits(k.number)
	return strconv.Itoa(k.count) + " " + k.marks + " " + r.Num().String() + " " + r.Denom().String()
}

func (k known) value() string {
	if k.has('n') || k.has('p') || k.has('m') {
		return api.ErrNotFinite.Error()
	}
	return ratioText(inUnits(k.number))
}

// comesTo is what a sum comes to, by the chapter's Words.
func (k known) comesTo(way int) float64 {
	switch {
	case k.has('n') || k.has('p') && k.has('m'):
		return none
	case k.has('p'):
		return inf
	case k.has('m'):
		return -inf
	case k.number.Sign() != 0:
		return rounded(inUnits(k.number), way)
	case k.count == 0 || !k.has('b'):
		return 0
	case !k.has('a') || way == api.RoundFloor:
		return minus
	}
	return 0
}

// rounded is what an exact number that is not nought comes to, told from the two floats about it.
func rounded(v *big.Rat, way int) float64 {
	near, _ := v.Float64()
	low, high := near, near
	switch side := beside(near, v); {
	case side == 0:
		return near
	case side > 0:
		low = math.Nextafter(near, -inf)
	default:
		high = math.Nextafter(near, inf)
	}
	if v.Sign() < 0 && high == 0 {
		high = minus
	}
	inner, outer := low, high
	if v.Sign() < 0 {
		inner, outer = high, low
	}
	switch way {
	case api.RoundFloor:
		return low
	case api.RoundCeil:
		return high
	case api.RoundDown:
		return inner
	case api.RoundUp:
		return outer
	case api.RoundHalfUp:
		if isMiddle(v, low, high) {
			return outer
		}
	}
	return near
}

// beside tells whether x is below v, is v, or is above (-1, 0, 1).
func beside(x float64, v *big.Rat) int {
	if math.IsInf(x, 0) {
		return int(math.Copysign(1, x))
	}
	return new(big.Rat).SetFloat64(x).Cmp(v)
}

func isMiddle(v *big.Rat, low, high float64) bool {
	if math.IsInf(low, 0) || math.IsInf(high, 0) {
		return false
	}
	ends := new(big.Rat).Add(new(big.Rat).SetFloat64(low), new(big.Rat).SetFloat64(high))
	return ends.Cmp(new(big.Rat).Add(v, v)) == 0
}

// put adds the parts to a sum.
func put(t *testing.T, a *sum.Acc, parts ...part) *sum.Acc {
	t.Helper()
	for _, p := range parts {
		e := api.OK
		if p.isProduct {
			e = a.AddProduct(p.x, p.y)
		} else {
			e = a.Add(p.x)
		}
		if e != api.OK {
			t.Fatalf("adding %v: %v", p, e)
		}
	}
	return a
}

// check holds all that a sum answers against what is known of its parts.
func check(t *testing.T, what string, a *sum.Acc, k known) {
	t.Helper()
	want(t, what+": Count", fmt.Sprint(a.Count()), fmt.Sprint(k.count))
	want(t, what+": Text", a.Text(), k.text())
	want(t, what+": Value", tellRatio(a.Value()), k.value())
	for _, way := range ways {
		want(t, fmt.Sprint(what, ": Round by ", way), tell(a.Round(way)), told(k.comesTo(way)))
	}
}

// edges are the floats that the chapters name, of both signs, and such that round one way or another when they are added.
func edges() []float64 {
	l := []float64{0, least, 2 * least, 3 * least, math.Nextafter(leastNormal, 0), leastNormal, 1, 1.5, 0.1, 3, 0x1p-60, 0x1p-53, 0x1p-52, 0x1p-1000, 0x1p-537, 0x1p600, 0x1p970, 0x1p1000, 0x1p1023, math.Nextafter(greatest, 0), greatest, inf, math.Nextafter(1, 2), math.Nextafter(1, 0), 1 << 53}
	for _, x := range l {
		l = append(l, -x)
	}
	return append(l, none)
}

func random(seed int64) *rand.Rand { return rand.New(rand.NewSource(seed)) }

// anyFloat is finite; every other one lies near 1, so that sums meet.
func anyFloat(r *rand.Rand) float64 {
	if r.Intn(2) == 0 {
		return math.Ldexp(r.Float64()-0.5, r.Intn(120)-60)
	}
	for {
		if x := math.Float64frombits(r.Uint64()); x-x == 0 {
			return x
		}
	}
}

// anyParts are finite ones and edges, some of which cancel; odd is how many in a hundred may be infinite or none.
func anyParts(r *rand.Rand, n, odd int) []part {
	var parts []part
	l := edges()
	pick := func() float64 {
		if r.Intn(3) > 0 {
			return anyFloat(r)
		}
		for {
			if x := l[r.Intn(len(l))]; x-x == 0 || r.Intn(100) < odd {
				return x
			}
		}
	}
	for range n {
		switch {
		case len(parts) > 0 && r.Intn(3) == 0:
			p := parts[r.Intn(len(parts))]
			p.x = -p.x
			parts = append(parts, p)
		case r.Intn(2) == 0:
			parts = append(parts, product(pick(), pick()))
		default:
			parts = append(parts, part{x: pick()})
		}
	}
	return parts
}

// anyList is finite floats, some of which nearly cancel.
func anyList(r *rand.Rand, n int) []float64 {
	var l []float64
	for range n {
		x := anyFloat(r)
		if len(l) > 0 && r.Intn(3) == 0 {
			x = -math.Nextafter(l[r.Intn(len(l))], 0)
		}
		l = append(l, x)
	}
	return l
}

// rat is a finite float's number, or that of an exact number's text.
func rat(t *testing.T, a api.Ratio, e api.Errno) *big.Rat {
	t.Helper()
	r, ok := new(big.Rat).SetString(a.Num + "/" + a.Den)
	if e != api.OK || !ok {
		t.Fatalf("%v/%v, %v", a.Num, a.Den, e)
	}
	return r
}
