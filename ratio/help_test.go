package ratio_test

import (
	"math/big"
	"math/rand"
	"strings"
	"testing"

	"tontine/api"
	"tontine/ratio"
)

// of is the exact number of a text, as it stands: it may be a wrong one.
func of(text string) api.Ratio {
	num, den, ok := strings.Cut(text, "/")
	if !ok {
		den = "1"
	}
	return api.Ratio{Num: num, Den: den}
}

// told is what a call answered, as a text; what stands beside an error must be nothing (R5).
func told(a api.Ratio, e api.Errno) string {
	if e != api.OK {
		if a != (api.Ratio{}) {
			return "a number beside " + e.Error()
		}
		return e.Error()
	}
	if a.Den == "1" {
		return a.Num
	}
	return a.Num + "/" + a.Den
}

func toldInt(n int, e api.Errno) string {
	return told(api.Ratio{Num: big.NewInt(int64(n)).String(), Den: "1"}, api.OK) + " " + e.Error()
}

func toldText(s string, e api.Errno) string {
	if e != api.OK {
		return s + e.Error()
	}
	return s
}

func toldList(l []string, e api.Errno) string {
	return toldText(strings.Join(l, " "), e)
}

func want(t *testing.T, what, got, want string) {
	t.Helper()
	if got != want {
		t.Errorf("%s: %s, want %s", what, shortened(got), shortened(want))
	}
}

func shortened(s string) string {
	if len(s) > 200 {
		return s[:100] + ".." + s[len(s)-90:]
	}
	return s
}

func toBig(a api.Ratio) *big.Rat {
	x, ok := new(big.Rat).SetString(a.Num + "/" + a.Den)
	if !ok {
		panic("no number: " + a.Num + "/" + a.Den)
	}
	return x
}

func fromBig(x *big.Rat) api.Ratio {
	return api.Ratio{Num: x.Num().String(), Den: x.Denom().String()}
}

// tellBig is what a call should tell that comes to x: ErrLong, if x is too long (R2).
func tellBig(x *big.Rat) string {
	a := fromBig(x)
	if len(strings.TrimPrefix(a.Num, "-")) > api.MaxDigits || len(a.Den) > api.MaxDigits {
		return api.ErrLong.Error()
	}
	return told(a, api.OK)
}

func random(seed int64) *rand.Rand { return rand.New(rand.NewSource(seed)) }

func randomInt(r *rand.Rand, digits int) *big.Int {
	text := make([]byte, digits)
	for i := range text {
		text[i] = byte('0' + r.Intn(10))
	}
	text[0] = byte('1' + r.Intn(9))
	x, _ := new(big.Int).SetString(string(text), 10)
	return x
}

// randomRatio has up to so many digits above and below; now and then it is nought, or whole.
func randomRatio(r *rand.Rand, digits int) api.Ratio {
	num, den := randomInt(r, 1+r.Intn(digits)), randomInt(r, 1+r.Intn(digits))
	switch r.Intn(8) {
	case 0:
		num = new(big.Int)
	case 1:
		den = big.NewInt(1)
	}
	if r.Intn(2) == 0 {
		num.Neg(num)
	}
	return fromBig(new(big.Rat).SetFrac(num, den))
}

// sizes are numbers of digits at which the words of long numbers change.
var sizes = []int{1, 2, 5, 18, 19, 20, 38, 39, 40, 300, 1500}

// some are small fractions of all kinds, among them equal ones.
func some() []api.Ratio {
	var l []api.Ratio
	for p := int64(-7); p <= 7; p++ {
		for q := int64(1); q <= 6; q++ {
			l = append(l, fromBig(big.NewRat(p, q)))
		}
	}
	return l
}

// ten is 10 to the n, as digits.
func ten(n int) string { return "1" + strings.Repeat("0", n) }

// nines is 10 to the n, less 1.
func nines(n int) string { return strings.Repeat("9", n) }

var ways = []int{api.RoundFloor, api.RoundCeil, api.RoundDown, api.RoundUp, api.RoundHalfUp, api.RoundHalfEven}

// mustRatio is what a call answered that may not fail.
func mustRatio(t *testing.T) func(a api.Ratio, e api.Errno) api.Ratio {
	return func(a api.Ratio, e api.Errno) api.Ratio {
		t.Helper()
		if e != api.OK {
			t.Fatalf("a call that may not fail: %v", e)
		}
		if e := ratio.Check(a); e != api.OK {
			t.Fatalf("an answer that is not right: %v of %s", e, shortened(told(a, api.OK)))
		}
		return a
	}
}
