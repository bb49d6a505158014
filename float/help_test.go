package float_test

import (
	"fmt"
	"math"
	"math/big"
	"math/rand"
	"strings"
	"testing"

	"tontine/api"
	"tontine/float"
)

var ways = []int{api.RoundFloor, api.RoundCeil, api.RoundDown, api.RoundUp, api.RoundHalfUp, api.RoundHalfEven}

// noWays are ways that are none of the six.
var noWays = []int{0, -1, 7, math.MinInt, math.MaxInt}

var (
	inf   = math.Inf(1)
	none  = math.NaN()
	minus = math.Copysign(0, -1) // -0

	greatest    = math.MaxFloat64             // M
	least       = math.SmallestNonzeroFloat64 // L
	leastNormal = math.Ldexp(1, -1022)

	greatest32    = float32(math.MaxFloat32)
	least32       = float32(math.SmallestNonzeroFloat32)
	leastNormal32 = float32(math.Ldexp(1, -126))
)

// told is a float, bit by bit; all that are none are alike (R8).
func told(x float64) string {
	if x != x {
		return "none"
	}
	return fmt.Sprintf("%x (%g)", math.Float64bits(x), x)
}

func told32(x float32) string {
	if x != x {
		return "none"
	}
	return fmt.Sprintf("%x (%g)", math.Float32bits(x), x)
}

func want(t *testing.T, what, got, want string) {
	t.Helper()
	if got != want {
		t.Errorf("%s: %s, want %s", what, got, want)
	}
}

// tell is what a call answered, as a text; what stands beside an error must be nothing (R5).
func tell(x float64, flags int, e api.Errno) string {
	if e != api.OK {
		if math.Float64bits(x) != 0 || flags != 0 {
			return "something beside " + e.Error()
		}
		return e.Error()
	}
	return fmt.Sprintf("%s, flags %d", told(x), flags)
}

func tellFloat(x float64, e api.Errno) string {
	return tell(x, 0, e)
}

func tell32(x float32, e api.Errno) string {
	if e != api.OK {
		if math.Float32bits(x) != 0 {
			return "something beside " + e.Error()
		}
		return e.Error()
	}
	return told32(x)
}

func tellInt(n int, e api.Errno) string {
	if e != api.OK {
		if n != 0 {
			return "something beside " + e.Error()
		}
		return e.Error()
	}
	return fmt.Sprint(n)
}

func tellRatio(a api.Ratio, e api.Errno) string {
	if e != api.OK {
		if a != (api.Ratio{}) {
			return "a number beside " + e.Error()
		}
		return e.Error()
	}
	return a.Num + "/" + a.Den
}

// of is the exact number of a text, as it stands: it may be a wrong one.
func of(text string) api.Ratio {
	num, den, ok := strings.Cut(text, "/")
	if !ok {
		den = "1"
	}
	return api.Ratio{Num: num, Den: den}
}

func fromBig(x *big.Rat) api.Ratio {
	return api.Ratio{Num: x.Num().String(), Den: x.Denom().String()}
}

func toBig(a api.Ratio) *big.Rat {
	x, ok := new(big.Rat).SetString(a.Num + "/" + a.Den)
	if !ok {
		panic("no number: " + a.Num + "/" + a.Den)
	}
	return x
}

// number is a finite float's exact number.
func number(x float64) *big.Rat {
	return new(big.Rat).SetFloat64(x)
}

// two is 2 to the n.
func two(n int) *big.Rat {
	power := new(big.Int).Lsh(big.NewInt(1), uint(max(n, -n)))
	if n < 0 {
		return new(big.Rat).SetFrac(big.NewInt(1), power)
	}
	return new(big.Rat).SetInt(power)
}

func plus(x, y *big.Rat) *big.Rat  { return new(big.Rat).Add(x, y) }
func less(x, y *big.Rat) *big.Rat  { return new(big.Rat).Sub(x, y) }
func times(x, y *big.Rat) *big.Rat { return new(big.Rat).Mul(x, y) }
func by(x, y *big.Rat) *big.Rat    { return new(big.Rat).Quo(x, y) }
func turned(x *big.Rat) *big.Rat   { return new(big.Rat).Neg(x) }

// size is a size of floats: p, a and b of the chapter's Words.
type size struct {
	p, a, b int
}

var (
	floats = size{53, -1074, 971}
	smalls = size{24, -149, 104}
)

// greatest is M.
func (s size) greatest() *big.Rat {
	return times(less(two(s.p), two(0)), two(s.b))
}

// found is what v, which is not nought, comes to on the grid, which has no end above.
func (s size) found(v *big.Rat, way int) *big.Rat {
	size := new(big.Rat).Abs(v)
	e := max(size.Num().BitLen()-size.Denom().BitLen()-s.p-1, s.a)
	for size.Cmp(two(e+s.p)) >= 0 {
		e++
	}
	scaled := by(size, two(e))
	m, rest := new(big.Int).QuoRem(scaled.Num(), scaled.Denom(), new(big.Int))
	half := new(big.Rat).SetFrac(rest, scaled.Denom()).Cmp(big.NewRat(1, 2))
	farther := false
	switch way {
	case api.RoundFloor:
		farther = v.Sign() < 0
	case api.RoundCeil:
		farther = v.Sign() > 0
	case api.RoundUp:
		farther = true
	case api.RoundHalfUp:
		farther = half >= 0
	case api.RoundHalfEven:
		farther = half > 0 || half == 0 && m.Bit(0) == 1
	}
	if farther && rest.Sign() != 0 {
		m.Add(m, big.NewInt(1))
	}
	r := times(new(big.Rat).SetInt(m), two(e))
	if v.Sign() < 0 {
		r.Neg(r)
	}
	return r
}

// rounded is what v comes to (a small float, widened), and the flags, as the chapter says them.
func (s size) rounded(v *big.Rat, way int) (float64, int) {
	if v.Sign() == 0 {
		return 0, 0
	}
	r := s.found(v, way)
	sign := float64(v.Sign())
	if new(big.Rat).Abs(r).Cmp(s.greatest()) > 0 {
		if way == api.RoundDown || way == api.RoundFloor && v.Sign() > 0 || way == api.RoundCeil && v.Sign() < 0 {
			m, _ := s.greatest().Float64()
			return sign * m, api.FlagOver | api.FlagInexact
		}
		return sign * inf, api.FlagOver | api.FlagInexact
	}
	flags := 0
	if r.Cmp(v) != 0 {
		flags = api.FlagInexact
		if new(big.Rat).Abs(v).Cmp(two(s.a+s.p-1)) < 0 {
			flags |= api.FlagUnder
		}
	}
	x, exact := r.Float64()
	if !exact {
		panic("no float was found: " + r.String())
	}
	return math.Copysign(x, sign), flags
}

// edges are the floats that the chapter names, and some between them, of both signs, without those that are none.
func edges() []float64 {
	l := []float64{
		0, least, 2 * least, 3 * least, float.Down(leastNormal), leastNormal, float.Up(leastNormal), math.Ldexp(3, -1023),
		math.Ldexp(1, -1000), math.Ldexp(1, -537), math.Ldexp(1, -100), math.Ldexp(1, -54), math.Ldexp(1, -53), math.Ldexp(1, -52),
		0.1, 1. / 3, 0.5, math.Nextafter(1, 0), 1, math.Nextafter(1, 2), 1.5, 2, 2.5, 3, 10,
		1<<52 + 1, 1<<53 - 1, 1 << 53, 1<<53 + 2, math.Nextafter(1<<63, 0), 1 << 63,
		math.Ldexp(1, 512), math.Ldexp(1, 970), math.Ldexp(1, 969), math.Ldexp(1, 1000), math.Ldexp(1, 1023), math.Nextafter(greatest, 0), greatest, inf,
	}
	for _, x := range l {
		l = append(l, -x)
	}
	return l
}

// edges32 are those of small floats.
func edges32() []float32 {
	l := []float32{
		0, least32, 2 * least32, 3 * least32, math.Nextafter32(leastNormal32, 0), leastNormal32, math.Nextafter32(leastNormal32, 1),
		0.1, 1. / 3, 0.5, math.Nextafter32(1, 0), 1, math.Nextafter32(1, 2), 1.5, 2, 3, 10, 1<<24 - 1, 1 << 24, 1<<24 + 2,
		float32(math.Ldexp(1, 103)), math.Nextafter32(greatest32, 0), greatest32, float32(inf),
	}
	for _, x := range l {
		l = append(l, -x)
	}
	return l
}

func random(seed int64) *rand.Rand { return rand.New(rand.NewSource(seed)) }

// anyFloat has any bits; every other one lies near 1 or has few digits, so that sums meet and products end.
func anyFloat(r *rand.Rand) float64 {
	switch r.Intn(4) {
	case 0:
		return math.Ldexp(r.Float64()-0.5, r.Intn(120)-60)
	case 1:
		return math.Ldexp(float64(r.Intn(1<<20)-1<<19), r.Intn(40)-20)
	}
	return math.Float64frombits(r.Uint64())
}

func anyFloat32(r *rand.Rand) float32 {
	if r.Intn(2) == 0 {
		return float32(math.Ldexp(r.Float64()-0.5, r.Intn(60)-30))
	}
	return math.Float32frombits(r.Uint32())
}

func finite(x float64) bool { return x-x == 0 }
