package smooth_test

import (
	"fmt"
	"math"
	"math/big"
	"math/rand"
	"strconv"
	"strings"
	"testing"

	"tontine/api"
)

const (
	points   = api.MaxPoints
	heaviest = api.MaxWeight
)

// noOrders are no orders of a graduation; 0 is one of Differences.
var noOrders = []int{0, -1, api.MaxOrder + 1, 7, math.MinInt, math.MaxInt}

// noWeights are ints that are neither weights nor a smoothness.
var noWeights = []int{-1, heaviest + 1, -heaviest, 2 * heaviest, math.MinInt, math.MaxInt}

// noNumbers are exact numbers that are not right, with R1's errors.
func noNumbers() map[api.Ratio]api.Errno {
	long := strings.Repeat("7", api.MaxDigits+1)
	return map[api.Ratio]api.Errno{
		{}: api.ErrShape, of("2/4"): api.ErrShape, of("0/2"): api.ErrShape, of("1/0"): api.ErrShape, of("1/-2"): api.ErrShape, of("-0"): api.ErrShape, of("+1"): api.ErrShape, of("x"): api.ErrShape, of("01/2"): api.ErrShape, {Num: "1"}: api.ErrShape,
		of(long): api.ErrLong, of("-" + long): api.ErrLong, of("1/" + long): api.ErrLong, of(long + "/" + long): api.ErrLong, of(long + "/x"): api.ErrShape,
	}
}

// of is an exact number from its text, as it stands: it may be a wrong one.
func of(text string) api.Ratio {
	num, den, found := strings.Cut(text, "/")
	if !found {
		den = "1"
	}
	return api.Ratio{Num: num, Den: den}
}

// list is exact numbers from a text with blanks between them.
func list(text string) []api.Ratio {
	var l []api.Ratio
	for _, s := range strings.Fields(text) {
		l = append(l, of(s))
	}
	return l
}

func ints(n ...int) []int { return n }

// repeated is a value so many times.
func repeated[T any](x T, count int) []T {
	l := make([]T, count)
	for i := range l {
		l[i] = x
	}
	return l
}

// with is a copy of l with another value at a place.
func with[T any](l []T, at int, x T) []T {
	c := append([]T(nil), l...)
	c[at] = x
	return c
}

func random(seed int64) *rand.Rand { return rand.New(rand.NewSource(seed)) }

func randomInt(r *rand.Rand, digits int) *big.Int {
	text := make([]byte, digits)
	for i := range text {
		text[i] = byte('0' + r.Intn(10))
	}
	text[0] = byte('1' + r.Intn(9))
	x, _ := new(big.Int).SetString(string(text), 10)
	return x
}

// anyNumber has up to so many digits above and below; now and then it is nought, or whole.
func anyNumber(r *rand.Rand, digits int) *big.Rat {
	num, den := randomInt(r, 1+r.Intn(digits)), randomInt(r, 1+r.Intn(digits))
	switch r.Intn(8) {
	case 0:
		num = new(big.Int)
	case 1:
		den = big.NewInt(1)
	}
	if r.Intn(2) == 0 {
		num.Neg(num)
	}
	return new(big.Rat).SetFrac(num, den)
}

// anyNumbers is so many of them.
func anyNumbers(r *rand.Rand, count, digits int) []*big.Rat {
	l := make([]*big.Rat, count)
	for i := range l {
		l[i] = anyNumber(r, digits)
	}
	return l
}

// anyWeight is often an end of the range.
func anyWeight(r *rand.Rand) int {
	switch r.Intn(4) {
	case 0:
		return []int{0, 1, heaviest - 1, heaviest}[r.Intn(4)]
	case 1:
		return r.Intn(heaviest + 1)
	}
	return r.Intn(20)
}

func anyWeights(r *rand.Rand, count int) []int {
	l := make([]int, count)
	for i := range l {
		l[i] = anyWeight(r)
	}
	return l
}

// isSingular tells whether there is not just one graduation, by the Words.
func isSingular(weights []int, order, smooth int) bool {
	n, some := len(weights), 0
	for _, w := range weights {
		if w > 0 {
			some++
		}
	}
	return some < n && !(smooth > 0 && n > order && some >= order)
}

func whole(n int) *big.Rat { return new(big.Rat).SetInt64(int64(n)) }

func plus(x, y *big.Rat) *big.Rat { return new(big.Rat).Add(x, y) }

func minus(x, y *big.Rat) *big.Rat { return new(big.Rat).Sub(x, y) }

func times(x, y *big.Rat) *big.Rat { return new(big.Rat).Mul(x, y) }

func by(x, y *big.Rat) *big.Rat { return new(big.Rat).Quo(x, y) }

// differences are those of an order, as the Words have them: of order 1, so often.
func differences(l []*big.Rat, order int) []*big.Rat {
	for range order {
		var next []*big.Rat
		for i := 1; i < len(l); i++ {
			next = append(next, minus(l[i], l[i-1]))
		}
		l = next
	}
	return l
}

// s is s(k) of 10.3.
func s(order, k int) int {
	if k < 0 || k > order {
		return 0
	}
	n := int(new(big.Int).Binomial(int64(order), int64(k)).Int64())
	if (order-k)%2 == 1 {
		return -n
	}
	return n
}

// entry is A(i, j) of 10.3.
func entry(weights []int, order, smooth, i, j int) int {
	sum := 0
	for m := 0; m <= len(weights)-order-1; m++ {
		sum += s(order, i-m) * s(order, j-m)
	}
	sum *= smooth
	if i == j {
		sum += weights[i]
	}
	return sum
}

func toBig(r api.Ratio) *big.Rat {
	x, ok := new(big.Rat).SetString(r.Num + "/" + r.Den)
	if !ok {
		panic("no exact number: " + r.Num + "/" + r.Den)
	}
	return x
}

func toBigs(l []api.Ratio) []*big.Rat {
	numbers := make([]*big.Rat, len(l))
	for i, r := range l {
		numbers[i] = toBig(r)
	}
	return numbers
}

func fromBig(x *big.Rat) api.Ratio {
	return api.Ratio{Num: x.Num().String(), Den: x.Denom().String()}
}

func fromBigs(l []*big.Rat) []api.Ratio {
	numbers := make([]api.Ratio, len(l))
	for i, x := range l {
		numbers[i] = fromBig(x)
	}
	return numbers
}

// isLong tells whether x has too many digits (R2).
func isLong(x *big.Rat) bool {
	r := fromBig(x)
	return len(strings.TrimPrefix(r.Num, "-")) > api.MaxDigits || len(r.Den) > api.MaxDigits
}

// listed is what a call should tell that comes to these: ErrLong, if one is too long (R2).
func listed(l ...*big.Rat) string {
	texts := make([]string, len(l))
	for i, x := range l {
		if isLong(x) {
			return refused(api.ErrLong)
		}
		texts[i] = x.String()
	}
	return strings.Join(texts, " ")
}

// tenTo is 10 to the n, as digits.
func tenTo(n int) string { return "1" + strings.Repeat("0", n) }

// nines is 10 to the n, less 1.
func nines(n int) string { return strings.Repeat("9", n) }

func want(t *testing.T, what, got, want string) {
	t.Helper()
	if got != want {
		t.Errorf("%s: %s, want %s", short(what), short(got), short(want))
	}
}

// short is a text that may be very long, so that it can be told.
func short(s string) string {
	if len(s) <= 400 {
		return s
	}
	return fmt.Sprintf("%s..%s (%d bytes)", s[:190], s[len(s)-190:], len(s))
}

// told is what a call answered, or its error; what stands beside an error must be nothing (R5).
func told(answer string, e api.Errno, isNothing bool) string {
	switch {
	case e == api.OK:
		return answer
	case !isNothing:
		return "something beside " + e.Error()
	}
	return e.Error()
}

func tell(r api.Ratio, e api.Errno) string { return told(r.Num+"/"+r.Den, e, r == api.Ratio{}) }

func tellTwo(a, b api.Ratio, e api.Errno) string {
	return told(a.Num+"/"+a.Den+" "+b.Num+"/"+b.Den, e, a == api.Ratio{} && b == api.Ratio{})
}

// tellList tells an empty list as none (R3).
func tellList(l []api.Ratio, e api.Errno) string {
	texts := make([]string, len(l))
	for i, r := range l {
		texts[i] = r.Num + "/" + r.Den
	}
	return told(strings.Join(texts, " "), e, len(l) == 0)
}

// tellFloats tells floats bit by bit (R8); any that is none stands for each.
func tellFloats(l []float64, e api.Errno) string {
	texts := make([]string, len(l))
	for i, x := range l {
		texts[i] = strconv.FormatUint(math.Float64bits(x), 16)
		if math.IsNaN(x) {
			texts[i] = "none"
		}
	}
	return told(strings.Join(texts, " "), e, len(l) == 0)
}

func tellTable(t api.Table, e api.Errno) string {
	isNothing := t.Name == "" && t.First == 0 && len(t.Rates) == 0 && len(t.Select) == 0
	return told(fmt.Sprint(t.Name, " ", t.First, t.Rates, t.Select), e, isNothing)
}

func refused(e api.Errno) string { return e.Error() }
