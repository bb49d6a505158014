package float_test

import (
	"fmt"
	"math"
	"math/big"
	"testing"

	"tontine/api"
	"tontine/float"
)

// signed is a nought, or an infinite one, with the sign bit or without.
func signed(x float64, neg bool) float64 {
	if neg {
		return -x
	}
	return x
}

// sumOf is what a sum should come to, of a part that was not rounded yet (nought or infinite as a float beside it) and a float.
func sumOf(v *big.Rat, x, y float64, way int) (float64, int) {
	switch {
	case math.IsInf(x, 0) && math.IsInf(y, 0) && x != y:
		return none, api.FlagInvalid
	case math.IsInf(x, 0):
		return x, 0
	case math.IsInf(y, 0):
		return y, 0
	}
	sum := plus(v, number(y))
	if sum.Sign() != 0 {
		return floats.rounded(sum, way)
	}
	if v.Sign() == 0 && y == 0 && math.Signbit(x) == math.Signbit(y) {
		return signed(0, math.Signbit(y)), 0
	}
	return signed(0, way == api.RoundFloor), 0
}

func addOf(x, y float64, way int) (float64, int) {
	if x != x || y != y {
		return none, 0
	}
	v := new(big.Rat)
	if finite(x) {
		v = number(x)
	}
	return sumOf(v, x, y, way)
}

// exactProduct is the product as an exact number, and, if it is nought or infinite or none, as a float.
func exactProduct(x, y float64) (*big.Rat, float64) {
	neg := math.Signbit(x) != math.Signbit(y)
	switch {
	case math.IsInf(x, 0) && y == 0 || x == 0 && math.IsInf(y, 0):
		return new(big.Rat), none
	case math.IsInf(x, 0) || math.IsInf(y, 0):
		return new(big.Rat), signed(inf, neg)
	}
	return times(number(x), number(y)), signed(0, neg)
}

func mulOf(x, y float64, way int) (float64, int) {
	if x != x || y != y {
		return none, 0
	}
	v, special := exactProduct(x, y)
	switch {
	case special != special:
		return none, api.FlagInvalid
	case v.Sign() == 0:
		return special, 0
	}
	return floats.rounded(v, way)
}

func fusedOf(x, y, z float64, way int) (float64, int) {
	if x != x || y != y || z != z {
		return none, 0
	}
	v, special := exactProduct(x, y)
	if special != special {
		return none, api.FlagInvalid
	}
	return sumOf(v, special, z, way)
}

func divOf(x, y float64, way int) (float64, int) {
	neg := math.Signbit(x) != math.Signbit(y)
	switch {
	case x != x || y != y:
		return none, 0
	case x == 0 && y == 0 || math.IsInf(x, 0) && math.IsInf(y, 0):
		return none, api.FlagInvalid
	case math.IsInf(x, 0):
		return signed(inf, neg), 0
	case math.IsInf(y, 0) || x == 0:
		return signed(0, neg), 0
	case y == 0:
		return signed(inf, neg), api.FlagZero
	}
	return floats.rounded(by(number(x), number(y)), way)
}

// rootOf looks for the root between two neighbours, by their squares.
func rootOf(x float64, way int) (float64, int) {
	switch {
	case x != x || x == 0 || x == inf:
		return x, 0
	case x < 0:
		return none, api.FlagInvalid
	}
	v := number(x)
	square := func(r *big.Rat) int { return times(r, r).Cmp(v) }
	low := math.Sqrt(x)
	for square(number(low)) > 0 {
		low = math.Nextafter(low, 0)
	}
	high := math.Nextafter(low, inf)
	if square(number(low)) == 0 {
		return low, 0
	}
	half := times(plus(number(low), number(high)), big.NewRat(1, 2)) // a root never is there
	if way == api.RoundCeil || way == api.RoundUp || (way == api.RoundHalfUp || way == api.RoundHalfEven) && square(half) < 0 {
		return high, api.FlagInexact
	}
	return low, api.FlagInexact
}

func reckoned(x float64, flags int) string { return tell(x, flags, api.OK) }

// checkTwo holds all operations of one and two floats against what the chapter says, by all ways.
func checkTwo(t *testing.T, x, y float64) {
	t.Helper()
	for _, way := range ways {
		what := fmt.Sprint(told(x), " and ", told(y), " by ", way)
		want(t, "Add "+what, tell(float.Add(x, y, way)), reckoned(addOf(x, y, way)))
		want(t, "Mul "+what, tell(float.Mul(x, y, way)), reckoned(mulOf(x, y, way)))
		want(t, "Div "+what, tell(float.Div(x, y, way)), reckoned(divOf(x, y, way)))
	}
}

// 2.4: all edges with one another, by each way.
func TestTwoEdges(t *testing.T) {
	l := append(edges(), none)
	for _, x := range l {
		for _, y := range l {
			checkTwo(t, x, y)
		}
	}
}

// 2.4: any floats, and such whose sums, products and quotients lie beside the bounds of subnormal ones and of M.
func TestTwoRandom(t *testing.T) {
	r := random(20)
	for range 800 {
		x, y := anyFloat(r), anyFloat(r)
		checkTwo(t, x, y)
		checkTwo(t, x, signed(x, r.Intn(2) == 0))
		checkTwo(t, x, float.Up(-x))
		e := r.Intn(1000)
		checkTwo(t, math.Ldexp(1+r.Float64(), e-1074-r.Intn(3)), math.Ldexp(1+r.Float64(), -e))
		checkTwo(t, math.Ldexp(1+r.Float64(), e+22+r.Intn(3)), math.Ldexp(1+r.Float64(), 1000-e))
		checkTwo(t, math.Ldexp(1+r.Float64(), e-1022-r.Intn(54)), math.Ldexp(1+r.Float64(), e))
		checkTwo(t, math.Ldexp(1+r.Float64(), e), math.Ldexp(1+r.Float64(), e-1021-r.Intn(3)))
	}
}

// 2.4: half to even is what the machine's own operations do.
func TestHalfEvenIsTheMachines(t *testing.T) {
	r := random(21)
	for range 200000 {
		x, y, z := anyFloat(r), anyFloat(r), anyFloat(r)
		same := func(what string, got float64, machine float64) {
			if math.Float64bits(got) != math.Float64bits(machine) && (got == got || machine == machine) {
				t.Errorf("%s of %g, %g, %g: %g, the machine's: %g", what, x, y, z, got, machine)
			}
		}
		got, _, _ := float.Add(x, y, api.RoundHalfEven)
		same("Add", got, x+y)
		got, _, _ = float.Mul(x, y, api.RoundHalfEven)
		same("Mul", got, x*y)
		got, _, _ = float.Div(x, y, api.RoundHalfEven)
		same("Div", got, x/y)
		got, _, _ = float.Root(x, api.RoundHalfEven)
		same("Root", got, math.Sqrt(x))
		got, _, _ = float.Fused(x, y, z, api.RoundHalfEven)
		same("Fused", got, math.FMA(x, y, z))
	}
}

func checkFused(t *testing.T, x, y, z float64) {
	t.Helper()
	for _, way := range ways {
		want(t, fmt.Sprint("Fused ", told(x), " ", told(y), " ", told(z), " by ", way), tell(float.Fused(x, y, z, way)), reckoned(fusedOf(x, y, z, way)))
	}
}

// 2.4: edges of all kinds, three at once.
func TestFusedEdges(t *testing.T) {
	l := []float64{0, least, leastNormal, math.Ldexp(1, -537), 1. / 3, 1, 3, math.Ldexp(1, 512), greatest, inf}
	for _, x := range l {
		l = append(l, -x)
	}
	l = append(l, none)
	for _, x := range l {
		for _, y := range l {
			for _, z := range l {
				checkFused(t, x, y, z)
			}
		}
	}
}

// 2.4: products that the third one takes away, nearly or all; and such that lie far above or below it.
func TestFusedRandom(t *testing.T) {
	r := random(22)
	for range 2000 {
		x, y := anyFloat(r), anyFloat(r)
		p := x * y
		checkFused(t, x, y, anyFloat(r))
		checkFused(t, x, y, -p)
		checkFused(t, x, y, -float.Up(p))
		checkFused(t, x, y, math.Ldexp(p, r.Intn(240)-120))
		checkFused(t, x, y, -math.Ldexp(1, math.Ilogb(p)+r.Intn(240)-120))
		few := math.Ldexp(float64(r.Intn(1<<12)-1<<11), r.Intn(50)-1074)
		checkFused(t, few, float64(r.Intn(1<<12)-1<<11)/64, math.Ldexp(float64(r.Intn(1<<12)), -1074))
	}
}

// 2.4: of a sum the lesser part may lie anywhere below the greater one, and is never lost.
func TestFarApart(t *testing.T) {
	for k := range 260 {
		for _, x := range []float64{1, 1 + math.Ldexp(1, -52), 1.5, -1, math.Nextafter(1, 0)} {
			for _, y := range []float64{math.Ldexp(1, -k), math.Ldexp(-1, -k), math.Ldexp(1+math.Ldexp(1, -52), -k), math.Ldexp(-3, -k)} {
				for _, way := range ways {
					want(t, fmt.Sprint("Add ", told(x), " ", told(y), " by ", way), tell(float.Add(x, y, way)), reckoned(addOf(x, y, way)))
				}
			}
		}
	}
}

// 2.4: products with a few low digits far below the others, which the third one fills up, to a float, to half way between two, or nearly so.
func TestFusedFarApart(t *testing.T) {
	for j := 1; j <= 52; j += 3 {
		for k := j; k <= 52; k++ {
			for _, sign := range []float64{1, -1} {
				x, y := 1+math.Ldexp(1, -j), 1+sign*math.Ldexp(1, -k)
				p := x * y
				v := times(number(x), number(y))
				for _, goal := range []float64{0, 0.5, -0.5} {
					gap, _ := float.Gap(p)
					z, _ := less(plus(number(p), number(goal*gap)), v).Float64()
					for _, z := range []float64{z, float.Up(z), float.Down(z)} {
						checkFused(t, x, y, z)
					}
				}
			}
		}
	}
}

// 2.4: roots.
func TestRoot(t *testing.T) {
	r := random(23)
	l := append(edges(), none)
	for range 2000 {
		x := math.Abs(anyFloat(r))
		n := float64(r.Intn(1 << 26))
		l = append(l, x, -x, n*n, float.Up(n*n), float.Down(n*n), math.Ldexp(n*n, -1074), math.Ldexp(n*n, 2*r.Intn(400)-500))
	}
	for _, x := range l {
		for _, way := range ways {
			want(t, fmt.Sprint("Root ", told(x), " by ", way), tell(float.Root(x, way)), reckoned(rootOf(x, way)))
		}
	}
}

// 2.4: a way that is none of the six, ahead of all else.
func TestReckonRefuses(t *testing.T) {
	for _, way := range noWays {
		for _, x := range []float64{0, minus, 1, least, greatest, inf, -inf, none} {
			for _, y := range []float64{0, 1, -greatest, inf, none} {
				want(t, "Add", tell(float.Add(x, y, way)), api.ErrRange.Error())
				want(t, "Mul", tell(float.Mul(x, y, way)), api.ErrRange.Error())
				want(t, "Div", tell(float.Div(x, y, way)), api.ErrRange.Error())
				want(t, "Fused", tell(float.Fused(x, y, 1, way)), api.ErrRange.Error())
			}
			want(t, "Root", tell(float.Root(x, way)), api.ErrRange.Error())
		}
	}
}

// 2.4: sums that are nought.
func TestNoughts(t *testing.T) {
	for _, way := range ways {
		other := signed(0, way == api.RoundFloor)
		for _, c := range []struct{ x, y, sum float64 }{
			{0, 0, 0}, {minus, minus, minus}, {0, minus, other}, {minus, 0, other}, {1, -1, other}, {-least, least, other}, {greatest, -greatest, other},
		} {
			want(t, "Add", tell(float.Add(c.x, c.y, way)), reckoned(c.sum, 0))
			want(t, "Fused", tell(float.Fused(c.x, 1, c.y, way)), reckoned(c.sum, 0))
			want(t, "Fused", tell(float.Fused(-1, c.x, -c.y, way)), reckoned(sumTurned(c.x, c.y, way), 0))
		}
		want(t, "Fused of a nought that was rounded to", tell(float.Fused(least, 0.25, 0, way)), reckoned(floats.rounded(two(-1076), way)))
		want(t, "Fused of one below nought", tell(float.Fused(least, -0.25, 0, way)), reckoned(floats.rounded(turned(two(-1076)), way)))
		want(t, "Mul", tell(float.Mul(minus, 5, way)), reckoned(minus, 0))
		want(t, "Mul", tell(float.Mul(minus, -5, way)), reckoned(0, 0))
		want(t, "Div", tell(float.Div(0, -5, way)), reckoned(minus, 0))
		want(t, "Div", tell(float.Div(-5, inf, way)), reckoned(minus, 0))
		want(t, "Root", tell(float.Root(minus, way)), reckoned(minus, 0))
		want(t, "Root", tell(float.Root(0, way)), reckoned(0, 0))
	}
}

func sumTurned(x, y float64, way int) float64 {
	sum, _ := addOf(-x, -y, way)
	return sum
}

// 2.4: each flag, alone or with FlagInexact, and just where it begins.
func TestFlags(t *testing.T) {
	const (
		exact   = 0
		inexact = api.FlagInexact
		over    = api.FlagOver | api.FlagInexact
		under   = api.FlagUnder | api.FlagInexact
	)
	for _, way := range ways {
		beyond, below := inf, greatest
		if way == api.RoundFloor || way == api.RoundDown {
			beyond = greatest
		}
		if way == api.RoundCeil || way == api.RoundUp {
			below = inf
		}
		want(t, "Div by nought", tell(float.Div(-3, 0, way)), reckoned(-inf, api.FlagZero))
		want(t, "Div of infinite by nought", tell(float.Div(-inf, 0, way)), reckoned(-inf, 0))
		want(t, "Div of nought by nought", tell(float.Div(minus, 0, way)), reckoned(none, api.FlagInvalid))
		want(t, "Div of infinite by infinite", tell(float.Div(inf, -inf, way)), reckoned(none, api.FlagInvalid))
		want(t, "Div of none by nought", tell(float.Div(none, 0, way)), reckoned(none, 0))
		want(t, "Add of infinite ones", tell(float.Add(inf, -inf, way)), reckoned(none, api.FlagInvalid))
		want(t, "Mul of nought and infinite", tell(float.Mul(0, -inf, way)), reckoned(none, api.FlagInvalid))
		want(t, "Fused of nought and infinite", tell(float.Fused(inf, 0, 1, way)), reckoned(none, api.FlagInvalid))
		want(t, "Fused of nought and infinite, and none", tell(float.Fused(inf, 0, none, way)), reckoned(none, 0))
		want(t, "Fused of infinite ones", tell(float.Fused(inf, -2, inf, way)), reckoned(none, api.FlagInvalid))
		want(t, "Fused of a great product and infinite", tell(float.Fused(greatest, -greatest, inf, way)), reckoned(inf, 0))
		want(t, "Root below nought", tell(float.Root(-least, way)), reckoned(none, api.FlagInvalid))
		want(t, "Root of minus infinite", tell(float.Root(-inf, way)), reckoned(none, api.FlagInvalid))

		want(t, "2^1024", tell(float.Mul(math.Ldexp(1, 512), math.Ldexp(1, 512), way)), reckoned(beyond, over))
		want(t, "M and half a gap", tell(float.Add(greatest, math.Ldexp(1, 970), way)), reckoned(beyond, map[bool]int{true: over, false: inexact}[beyond == inf]))
		want(t, "M and less", tell(float.Add(greatest, math.Ldexp(1, 969), way)), reckoned(below, map[bool]int{true: over, false: inexact}[below == inf]))
		want(t, "M by 1", tell(float.Div(greatest, 1, way)), reckoned(greatest, exact))

		want(t, "a subnormal product", tell(float.Mul(leastNormal, 0.5, way)), reckoned(leastNormal/2, exact))
		want(t, "a subnormal quotient", tell(float.Div(3*least, 3, way)), reckoned(least, exact))
		want(t, "a subnormal sum", tell(float.Add(leastNormal, -least, way)), reckoned(leastNormal-least, exact))
		if _, flags, _ := float.Div(5*least, 2, way); flags != under {
			t.Errorf("half of 5 L by %d: flags %d", way, flags)
		}
		// Just below 2^-1022 it is told, though what comes out may be 2^-1022; just above it is not.
		if _, flags, _ := float.Mul(math.Nextafter(1, 0), leastNormal, way); flags != under {
			t.Errorf("just below the least normal one by %d: flags %d", way, flags)
		}
		if _, flags, _ := float.Div(float.Up(leastNormal), math.Nextafter(1, 0), way); flags != inexact {
			t.Errorf("just above the least normal one by %d: flags %d", way, flags)
		}
	}
}
