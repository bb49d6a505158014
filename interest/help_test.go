package interest_test

import (
	"fmt"
	"math"
	"math/big"
	"math/rand"
	"strconv"
	"strings"
	"testing"

	"tontine/api"
)

const (
	unit    = api.Unit
	most    = api.MaxMoney
	longest = api.MaxYears
)

var ways = []int{api.RoundFloor, api.RoundCeil, api.RoundDown, api.RoundUp, api.RoundHalfUp, api.RoundHalfEven}

// noWays are ways that are none of the six.
var noWays = []int{0, -1, 7, math.MinInt, math.MaxInt}

// rates are rates of interest, at the ends of their range and within it; noRates are none.
var (
	rates   = []int{-unit + 1, -unit + 3, -7500000, -1, 0, 1, 250000, 500000, 1234567, unit, 33333333, api.MaxRate - 1, api.MaxRate}
	noRates = []int{-unit, -unit - 1, -2 * unit, api.MaxRate + 1, 2 * api.MaxRate, math.MinInt, math.MaxInt}
)

// spans are years; noYears are none.
var (
	spans   = []int{0, 1, 2, 3, 10, longest - 1, longest}
	noYears = []int{-1, -2, longest + 1, 2 * longest, math.MinInt, math.MaxInt}
)

// noAmounts are ints that are no amounts.
var noAmounts = []int{most + 1, -most - 1, 2 * most, math.MaxInt, math.MinInt}

// flows are the flows of a text: times and amounts with : between.
func flows(text string) []api.Flow {
	var l []api.Flow
	for _, s := range strings.Fields(text) {
		time, amount, _ := strings.Cut(s, ":")
		l = append(l, api.Flow{Time: atoi(time), Amount: atoi(amount)})
	}
	return l
}

func atoi(s string) int {
	n, err := strconv.Atoi(s)
	if err != nil {
		panic(err)
	}
	return n
}

// repeated is n times the same.
func repeated[T any](x T, n int) []T {
	l := make([]T, n)
	for i := range l {
		l[i] = x
	}
	return l
}

func want(t *testing.T, what, got, want string) {
	t.Helper()
	if got != want {
		t.Errorf("%s: %s, want %s", short(what), short(got), short(want))
	}
}

// short is a text that may be very long, so that it can be told.
func short(s string) string {
	if len(s) <= 240 {
		return s
	}
	return fmt.Sprintf("%s..%s (%d bytes)", s[:110], s[len(s)-110:], len(s))
}

// told is what a call answered, or its error; what stands beside an error must be nothing (R5).
func told(answer string, e api.Errno, isNothing bool) string {
	switch {
	case e == api.OK:
		return answer
	case !isNothing:
		return "something beside " + e.Error()
	}
	return e.Error()
}

func text(r api.Ratio) string { return r.Num + "/" + r.Den }

func tell(r api.Ratio, e api.Errno) string { return told(text(r), e, r == api.Ratio{}) }

func tellTwo(a, b api.Ratio, e api.Errno) string {
	return told(text(a)+" "+text(b), e, a == api.Ratio{} && b == api.Ratio{})
}

func tellList(l []api.Ratio, e api.Errno) string {
	texts := make([]string, len(l))
	for i, r := range l {
		texts[i] = text(r)
	}
	return told(strings.Join(texts, " "), e, len(l) == 0)
}

func tellRows(l []api.Row, e api.Errno) string { return told(fmt.Sprint(l), e, len(l) == 0) }

// tellSpan tells a span bit by bit (R8).
func tellSpan(s api.Span, e api.Errno) string {
	lo, hi := math.Float64bits(s.Lo), math.Float64bits(s.Hi)
	return told(fmt.Sprintf("%x %x", lo, hi), e, lo == 0 && hi == 0)
}

func bits(lo, hi float64) string { return tellSpan(api.Span{Lo: lo, Hi: hi}, api.OK) }

func random(seed int64) *rand.Rand { return rand.New(rand.NewSource(seed)) }

func toBig(r api.Ratio) *big.Rat {
	x, ok := new(big.Rat).SetString(text(r))
	if !ok {
		panic("no number: " + text(r))
	}
	return x
}

func whole(n int) *big.Rat { return new(big.Rat).SetInt64(int64(n)) }

func plus(l ...*big.Rat) *big.Rat {
	sum := new(big.Rat)
	for _, x := range l {
		sum.Add(sum, x)
	}
	return sum
}

func times(l ...*big.Rat) *big.Rat {
	product := whole(1)
	for _, x := range l {
		product.Mul(product, x)
	}
	return product
}

func by(x, y *big.Rat) *big.Rat { return new(big.Rat).Quo(x, y) }

func minus(x *big.Rat) *big.Rat { return new(big.Rat).Neg(x) }

// power is x to the n.
func power(x *big.Rat, n int) *big.Rat {
	if n < 0 {
		x, n = new(big.Rat).Inv(x), -n
	}
	exp := big.NewInt(int64(n))
	return new(big.Rat).SetFrac(new(big.Int).Exp(x.Num(), exp, nil), new(big.Int).Exp(x.Denom(), exp, nil))
}

// rateOf is i, up is 1 + i.
func rateOf(rate int) *big.Rat { return big.NewRat(int64(rate), unit) }

func up(rate int) *big.Rat { return plus(whole(1), rateOf(rate)) }

// worth is what flows are worth at a time, by what one is worth a year later.
func worth(l []api.Flow, up *big.Rat, time int) *big.Rat {
	sum := new(big.Rat)
	for _, f := range l {
		sum.Add(sum, times(whole(f.Amount), power(up, time-f.Time)))
	}
	return sum
}

// numberOf is a float's number.
func numberOf(x float64) *big.Rat { return new(big.Rat).SetFloat64(x) }

// areNext tells whether a span's ends are the same float, or neighbours, and no end is -0.
func areNext(s api.Span) bool {
	if s.Lo == 0 && math.Signbit(s.Lo) || s.Hi == 0 && math.Signbit(s.Hi) {
		return false
	}
	return s.Lo == s.Hi || math.Nextafter(s.Lo, math.Inf(1)) == s.Hi
}

// longestPart is how many digits the longer one of both parts of an exact number has.
func longestPart(x *big.Rat) int {
	return max(len(new(big.Int).Abs(x.Num()).String()), len(x.Denom().String()))
}

// anyRate is a rate of any size, often at an end of the range.
func anyRate(r *rand.Rand) int {
	switch r.Intn(4) {
	case 0:
		return rates[r.Intn(len(rates))]
	case 1:
		return r.Intn(unit/10) - unit/50
	}
	return r.Intn(api.MaxRate+unit) - unit + 1
}

// anyAmount is one of any size, often at an end of the range, or 0.
func anyAmount(r *rand.Rand) int {
	switch r.Intn(6) {
	case 0:
		return 0
	case 1:
		return []int{most, -most, 1, -1}[r.Intn(4)]
	}
	size := int(math.Pow10(1 + r.Intn(15)))
	return r.Intn(2*size+1) - size
}

// anyFlows are up to so many flows.
func anyFlows(r *rand.Rand, count int) []api.Flow {
	var l []api.Flow
	for time := range longest + 1 {
		if r.Intn(longest+1) < count {
			l = append(l, api.Flow{Time: time, Amount: anyAmount(r)})
		}
	}
	return l
}
