package money_test

import (
	"fmt"
	"math"
	"math/big"
	"math/rand"
	"strconv"
	"strings"
	"testing"

	"tontine/api"
)

const most = api.MaxMoney

var ways = []int{api.RoundFloor, api.RoundCeil, api.RoundDown, api.RoundUp, api.RoundHalfUp, api.RoundHalfEven}

// noWays are ways that are none of the six.
var noWays = []int{0, -1, 7, math.MinInt, math.MaxInt}

// noAmounts are ints that are no amounts.
var noAmounts = []int{most + 1, -most - 1, 2 * most, math.MaxInt, math.MinInt}

// wrong are exact numbers that are not right, each with its error (R1).
func wrong() map[api.Ratio]api.Errno {
	return map[api.Ratio]api.Errno{
		{}: api.ErrShape, of("2/4"): api.ErrShape, of("0/2"): api.ErrShape, of("-0"): api.ErrShape, of("1/0"): api.ErrShape, of("1/-2"): api.ErrShape, of("01"): api.ErrShape, of("+1"): api.ErrShape, of("1.5"): api.ErrShape, of("x"): api.ErrShape,
		of(ten(api.MaxDigits)): api.ErrLong, of("-" + ten(api.MaxDigits)): api.ErrLong, of("1/" + ten(api.MaxDigits)): api.ErrLong, of("10/" + ten(api.MaxDigits)): api.ErrLong,
		of(ten(api.MaxDigits) + "/0"): api.ErrShape,
	}
}

// of is the exact number of a text, as it stands: it may be a wrong one.
func of(text string) api.Ratio {
	num, den, ok := strings.Cut(text, "/")
	if !ok {
		den = "1"
	}
	return api.Ratio{Num: num, Den: den}
}

// list is the exact numbers of a text, with spaces between them.
func list(texts string) []api.Ratio {
	var l []api.Ratio
	for _, s := range strings.Fields(texts) {
		l = append(l, of(s))
	}
	return l
}

// repeated is n times the same.
func repeated[T any](x T, n int) []T {
	l := make([]T, n)
	for i := range l {
		l[i] = x
	}
	return l
}

// ten is 10 to the n, as digits; nines is 1 less.
func ten(n int) string { return "1" + strings.Repeat("0", n) }

func nines(n int) string { return strings.Repeat("9", n) }

func want(t *testing.T, what, got, want string) {
	t.Helper()
	if got != want {
		t.Errorf("%s: %s, want %s", short(what), short(got), short(want))
	}
}

// short is a text that may be very long, so that it can be told.
func short(s string) string {
	if len(s) <= 240 {
		return s
	}
	return fmt.Sprintf("%s..%s (%d bytes)", s[:110], s[len(s)-110:], len(s))
}

// tell is what a call answered, as a text; what stands beside an error must be nothing (R5).
func tell(n int, e api.Errno) string {
	if e != api.OK {
		if n != 0 {
			return "a number beside " + e.Error()
		}
		return e.Error()
	}
	return strconv.Itoa(n)
}

func tellList(l []int, e api.Errno) string {
	if e != api.OK {
		if len(l) != 0 {
			return "a list beside " + e.Error()
		}
		return e.Error()
	}
	return fmt.Sprint(l)
}

func tellText(s string, e api.Errno) string {
	if e != api.OK {
		if s != "" {
			return "a text beside " + e.Error()
		}
		return e.Error()
	}
	return s
}

func tellRead(n int, f api.Fault) string {
	if f != (api.Fault{}) {
		if n != 0 {
			return "a number beside a fault"
		}
		return fault(f.At, f.Code)
	}
	return strconv.Itoa(n)
}

func fault(at int, e api.Errno) string { return fmt.Sprint("fault ", at, " ", e.Error()) }

func random(seed int64) *rand.Rand { return rand.New(rand.NewSource(seed)) }

func toBig(a api.Ratio) *big.Rat {
	x, ok := new(big.Rat).SetString(a.Num + "/" + a.Den)
	if !ok {
		panic("no number: " + a.Num + "/" + a.Den)
	}
	return x
}

func fromBig(x *big.Rat) api.Ratio {
	return api.Ratio{Num: x.Num().String(), Den: x.Denom().String()}
}

func bigTen(n int) *big.Int { return new(big.Int).Exp(big.NewInt(10), big.NewInt(int64(n)), nil) }

// tooLong tells whether an exact number has too many digits above or below (R2).
func tooLong(x *big.Rat) bool {
	limit := bigTen(api.MaxDigits)
	return x.Num().CmpAbs(limit) >= 0 || x.Denom().Cmp(limit) >= 0
}

// floorOf is the greatest whole number that is not above x.
func floorOf(x *big.Rat) *big.Int { return new(big.Int).Div(x.Num(), x.Denom()) } // Euclid's: right below nought too

// rounded is what chapter 1 makes of x, told from the two whole numbers about it.
func rounded(x *big.Rat, way int) *big.Int {
	low := floorOf(x)
	if x.IsInt() {
		return low
	}
	high := new(big.Int).Add(low, big.NewInt(1))
	inner, outer := low, high
	if x.Sign() < 0 {
		inner, outer = high, low
	}
	middle := new(big.Rat).Add(new(big.Rat).SetInt(low), big.NewRat(1, 2))
	switch way {
	case api.RoundFloor:
		return low
	case api.RoundCeil:
		return high
	case api.RoundDown:
		return inner
	case api.RoundUp:
		return outer
	}
	switch side := x.Cmp(middle); {
	case side < 0:
		return low
	case side > 0:
		return high
	case way == api.RoundHalfUp:
		return outer
	case low.Bit(0) == 0:
		return low
	}
	return high
}

// tellBig is a whole number of pennies, or the error, if it is no amount.
func tellBig(n *big.Int) string {
	if !isAmount(n) {
		return api.ErrMoney.Error()
	}
	return n.String()
}

func isAmount(n *big.Int) bool { return n.CmpAbs(big.NewInt(most)) <= 0 }

// anyRatio is a fraction of numbers with up to so many digits; now and then it is whole, a half, or nought.
func anyRatio(r *rand.Rand, digits int) *big.Rat {
	num := new(big.Int).Rand(r, bigTen(1+r.Intn(digits)))
	den := new(big.Int).Rand(r, bigTen(1+r.Intn(digits)))
	den.Add(den, big.NewInt(1))
	switch r.Intn(8) {
	case 0:
		den = big.NewInt(1)
	case 1:
		den = big.NewInt(2)
	case 2:
		num = new(big.Int)
	}
	if r.Intn(2) == 0 {
		num.Neg(num)
	}
	return new(big.Rat).SetFrac(num, den)
}

// anyAmount is one of any size, often at the ends of the range.
func anyAmount(r *rand.Rand) int {
	switch r.Intn(4) {
	case 0:
		return r.Intn(41) - 20
	case 1:
		return []int{most, -most}[r.Intn(2)]
	}
	return int(new(big.Int).Rand(r, bigTen(1+r.Intn(15))).Int64()) * (1 - 2*r.Intn(2))
}
