package digits_test

import (
	"fmt"
	"math"
	"math/big"
	"math/rand"
	"strings"
	"testing"

	"tontine/api"
)

var ways = []int{api.RoundFloor, api.RoundCeil, api.RoundDown, api.RoundUp, api.RoundHalfUp, api.RoundHalfEven}

// noWays are ways that are none of the six.
var noWays = []int{0, -1, 7, math.MinInt, math.MaxInt}

var (
	inf   = math.Inf(1)
	none  = math.NaN()
	minus = math.Copysign(0, -1) // -0

	greatest    = math.MaxFloat64             // M
	least       = math.SmallestNonzeroFloat64 // L
	leastNormal = math.Ldexp(1, -1022)

	greatest32    = float32(math.MaxFloat32)
	least32       = float32(math.SmallestNonzeroFloat32)
	leastNormal32 = float32(math.Ldexp(1, -126))
)

func want(t *testing.T, what, got, want string) {
	t.Helper()
	if got != want {
		t.Errorf("%s: %s, want %s", short(what), short(got), short(want))
	}
}

// short is a text that may be very long, so that it can be told.
func short(s string) string {
	if len(s) <= 200 {
		return s
	}
	return fmt.Sprintf("%s..%s (%d bytes)", s[:90], s[len(s)-90:], len(s))
}

// told is a float, bit by bit; all that are none are alike (R8).
func told(x float64) string {
	if x != x {
		return "none"
	}
	return fmt.Sprintf("%x (%g)", math.Float64bits(x), x)
}

func told32(x float32) string {
	if x != x {
		return "none"
	}
	return fmt.Sprintf("%x (%g)", math.Float32bits(x), x)
}

// tell is what a call answered, as a text; what stands beside an error must be nothing (R5).
func tell(x float64, e api.Errno) string {
	if e != api.OK {
		if math.Float64bits(x) != 0 {
			return "something beside " + e.Error()
		}
		return e.Error()
	}
	return told(x)
}

func tell32(x float32, e api.Errno) string {
	if e != api.OK {
		if math.Float32bits(x) != 0 {
			return "something beside " + e.Error()
		}
		return e.Error()
	}
	return told32(x)
}

func tellText(s string, e api.Errno) string {
	if e != api.OK {
		if s != "" {
			return "something beside " + e.Error()
		}
		return e.Error()
	}
	return s
}

func tellDigits(digits string, n int) string {
	return fmt.Sprintf("%q, %d", digits, n)
}

// manyFloats are the edges that the document names, and floats of all kinds; each with the other sign, too.
func manyFloats(random int) []float64 {
	l := []float64{0, inf, none, least, 2 * least, 3 * least, greatest, math.Nextafter(greatest, 0), leastNormal, math.Nextafter(leastNormal, 0), math.Nextafter(leastNormal, 1),
		1, 0.1, 0.5, 2.5, 9.5, 99.5, 0.25, 1e21, 1e22, 1e23, 9.007199254740993e15, 1125899906842624.25, 1125899906842624.75, 2251799813685248.5, 123456789012345680000, 0.000001, 1e-7, 1.5e-7, 12345678e-13, 9.996, 999999999999999900000, 1234567890123456800000,
		0.3, 1.0 / 3, 5e-5, 9999.5, 4503599627370496.5, 562949953421312.125}
	for e := -1074; e <= 1023; e += 7 {
		l = append(l, math.Ldexp(1, e))
	}
	for e := -323; e <= 308; e += 3 {
		ten := math.Pow(10, float64(e))
		l = append(l, ten, math.Nextafter(ten, 0), math.Nextafter(ten, inf))
	}
	r := rand.New(rand.NewSource(3))
	for range random {
		l = append(l, math.Float64frombits(r.Uint64()), r.ExpFloat64(), float64(r.Intn(1000000))/1000, float64(r.Uint64()>>11), math.Float64frombits(r.Uint64()>>12))
	}
	for _, x := range l {
		l = append(l, math.Copysign(x, -1))
	}
	return l
}

// manySmall is likewise of small floats.
func manySmall(random int) []float32 {
	l := []float32{0, float32(inf), float32(none), least32, 2 * least32, 3 * least32, greatest32, math.Nextafter32(greatest32, 0), leastNormal32, math.Nextafter32(leastNormal32, 0), math.Nextafter32(leastNormal32, 1),
		1, 0.1, 0.5, 2.5, 16777216, 16777218, 33554432, 1e10, 1e21, 1e22, 1e-5, 1e-6, 1e-7, 9.999999e-6, 8388608.5, 4194304.25, 2097152.125}
	for e := -149; e <= 127; e++ {
		two := float32(math.Ldexp(1, e))
		l = append(l, two, math.Nextafter32(two, 0), math.Nextafter32(two, float32(inf)))
	}
	r := rand.New(rand.NewSource(4))
	for range random {
		l = append(l, math.Float32frombits(r.Uint32()), float32(r.ExpFloat64()), float32(r.Intn(100000))/100, math.Float32frombits(r.Uint32()>>9))
	}
	for _, x := range l {
		l = append(l, float32(math.Copysign(float64(x), -1)))
	}
	return l
}

func isFinite(x float64) bool { return x-x == 0 }

// ratOf is a finite float's number.
func ratOf(x float64) *big.Rat { return new(big.Rat).SetFloat64(x) }

// power is 10 to the n.
func power(n int) *big.Rat {
	ten := new(big.Int).Exp(big.NewInt(10), big.NewInt(int64(max(n, -n))), nil)
	r := new(big.Rat).SetInt(ten)
	if n < 0 {
		r.Inv(r)
	}
	return r
}

// order is the greatest E for which 10 to the E is not above r, which is above nought.
func order(r *big.Rat) int {
	e := len(r.Num().String()) - len(r.Denom().String())
	for power(e).Cmp(r) > 0 {
		e--
	}
	for power(e+1).Cmp(r) <= 0 {
		e++
	}
	return e
}

// floor is the greatest whole number that is not above r.
func floor(r *big.Rat) *big.Int { return new(big.Int).Div(r.Num(), r.Denom()) }

// roundedWhole is r, rounded to a whole number by the way, as chapter 1 has it.
func roundedWhole(r *big.Rat, way int) *big.Int {
	low := floor(r)
	if r.IsInt() {
		return low
	}
	high := new(big.Int).Add(low, big.NewInt(1))
	near, far := low, high // to nought
	if r.Sign() < 0 {
		near, far = high, low
	}
	rest := new(big.Rat).Sub(r, new(big.Rat).SetInt(near))
	half := rest.Abs(rest).Cmp(big.NewRat(1, 2))
	switch way {
	case api.RoundFloor:
		return low
	case api.RoundCeil:
		return high
	case api.RoundDown:
		return near
	case api.RoundUp:
		return far
	}
	if half > 0 || half == 0 && (way == api.RoundHalfUp || near.Bit(0) == 1) {
		return far
	}
	return near
}

// candidate is a number of few digits: 0.digits times 10 to the n.
type candidate struct {
	digits string
	n      int
	number *big.Rat
}

func candidateOf(whole *big.Int, exp int) candidate {
	text := whole.String()
	number := new(big.Rat).Mul(new(big.Rat).SetInt(whole), power(exp))
	return candidate{strings.TrimRight(text, "0"), len(text) + exp, number}
}

// digitsOf is the digits of a size above nought, looked for among all numbers of k digits near it, k from 1 on, as the Words say; comes tells whether a number becomes the float.
func digitsOf(size *big.Rat, comes func(*big.Rat) bool) (string, int) {
	top := order(size)
	for k := 1; ; k++ {
		exp := top - k + 1
		low := floor(new(big.Rat).Quo(size, power(exp)))
		var best *candidate
		for i := int64(-3); i <= 4; i++ {
			n := new(big.Int).Add(low, big.NewInt(i))
			if n.Sign() <= 0 {
				continue
			}
			c := candidateOf(n, exp)
			if len(c.digits) <= k && comes(c.number) && (best == nil || isBetter(c, *best, size)) {
				best = &c
			}
		}
		if best != nil {
			return best.digits, best.n
		}
	}
}

func isBetter(c, d candidate, size *big.Rat) bool {
	far := func(c candidate) *big.Rat {
		r := new(big.Rat).Sub(c.number, size)
		return r.Abs(r)
	}
	order := far(c).Cmp(far(d))
	return order < 0 || order == 0 && c.digits[len(c.digits)-1]%2 == 0
}

// comesTo tells of a number whether it becomes the float x, half to even.
func comesTo(x float64) func(*big.Rat) bool {
	return func(r *big.Rat) bool {
		y, _ := r.Float64()
		return x == y
	}
}

func comesTo32(x float32) func(*big.Rat) bool {
	return func(r *big.Rat) bool {
		y, _ := r.Float32()
		return x == y
	}
}

// textFrom is the text of digits and n, as the Words say.
func textFrom(d string, n int) string {
	k := len(d)
	switch {
	case k <= n && n <= 21:
		return d + strings.Repeat("0", n-k)
	case 0 < n && n <= 21 && n < k:
		return d[:n] + "." + d[n:]
	case -6 < n && n <= 0:
		return "0." + strings.Repeat("0", -n) + d
	case k > 1:
		return fmt.Sprintf("%s.%se%d", d[:1], d[1:], n-1)
	}
	return fmt.Sprintf("%se%d", d, n-1)
}

// decimalText is a number whose decimal digits end, with all of them.
func decimalText(r *big.Rat) string {
	s := r.FloatString(1100)
	s = strings.TrimRight(s, "0")
	return strings.TrimSuffix(s, ".")
}

// countDigits is how many digits a text has ahead of its exponent, without the noughts at either end.
func countDigits(text string) int {
	text, _, _ = strings.Cut(text, "e")
	text = strings.Trim(strings.ReplaceAll(strings.TrimPrefix(text, "-"), ".", ""), "0")
	return len(text)
}
