package smooth_test

import (
	"fmt"
	"math/big"
	"testing"

	"tontine/api"
	"tontine/smooth"
)

// graduation solves A g = W u by Gauss, as 10.3 has A; there is just one solution.
func graduation(seen []*big.Rat, weights []int, order, smooth int) []*big.Rat {
	n := len(seen)
	rows := make([][]*big.Rat, n)
	for i := range n {
		for j := range n {
			rows[i] = append(rows[i], whole(entry(weights, order, smooth, i, j)))
		}
		rows[i] = append(rows[i], times(whole(weights[i]), seen[i]))
	}
	for k := range n {
		for i := range n {
			if i == k || rows[i][k].Sign() == 0 {
				continue
			}
			factor := by(rows[i][k], rows[k][k])
			for j := k; j <= n; j++ {
				rows[i][j] = minus(rows[i][j], times(factor, rows[k][j]))
			}
		}
	}
	g := make([]*big.Rat, n)
	for i := range n {
		g[i] = by(rows[i][n], rows[i][i])
	}
	return g
}

// wantLeast wants numbers at which F + h R does not change, whichever of them is moved: as that is nowhere hollow, it is the least there.
func wantLeast(t *testing.T, what string, seen []*big.Rat, weights []int, order, smooth int, g []*big.Rat) {
	t.Helper()
	if len(g) != len(seen) {
		t.Errorf("%s: %d numbers of %d", short(what), len(g), len(seen))
		return
	}
	d := differences(g, order)
	for i := range g {
		slope := times(whole(weights[i]), minus(g[i], seen[i]))
		for m, x := range d {
			if c := s(order, i-m) * smooth; c != 0 {
				slope = plus(slope, times(whole(c), x))
			}
		}
		if slope.Sign() != 0 {
			t.Errorf("%s: not the least at %d", short(what), i)
			return
		}
	}
}

// anyCase is what may be graduated, or has not just one graduation.
type anyCase struct {
	seen          []*big.Rat
	weights       []int
	order, smooth int
}

func (c anyCase) String() string { return fmt.Sprint(c.seen, c.weights, c.order, c.smooth) }

func randomCase(r interface{ Intn(n int) int }, seen []*big.Rat, weights []int) anyCase {
	smooths := []int{0, 1, 2, 100, 12345, heaviest - 1, heaviest}
	return anyCase{seen, weights, 1 + r.Intn(api.MaxOrder), smooths[r.Intn(len(smooths))]}
}

// 10.2: the graduation, against another way to solve for it; ErrSingular, if there is not just one.
func TestGraduate(t *testing.T) {
	r := random(102)
	singular := 0
	for i := range 600 {
		n := i % 10
		weights := anyWeights(r, n)
		if r.Intn(3) > 0 { // all above 0
			for k := range weights {
				weights[k] = max(weights[k], 1)
			}
		}
		c := randomCase(r, anyNumbers(r, n, 1+r.Intn(15)), weights)
		got, e := smooth.Graduate(fromBigs(c.seen), c.weights, c.order, c.smooth)
		if isSingular(c.weights, c.order, c.smooth) {
			want(t, "Graduate "+c.String(), tellList(got, e), refused(api.ErrSingular))
			singular++
			continue
		}
		want(t, "Graduate "+c.String(), tellList(got, e), listed(graduation(c.seen, c.weights, c.order, c.smooth)...))
		wantLeast(t, "Graduate "+c.String(), c.seen, c.weights, c.order, c.smooth, toBigs(got))
	}
	if singular < 15 {
		t.Error("only", singular, "cases were singular")
	}
}

// 10.2: up to MaxPoints numbers, of all orders, with the greatest smoothness and weights: all that the equations say.
func TestGraduateMany(t *testing.T) {
	r := random(1020)
	for order := 1; order <= api.MaxOrder; order++ {
		for _, n := range []int{points, 40} {
			for _, h := range []int{1, heaviest} {
				seen, weights := make([]*big.Rat, n), anyWeights(r, n)
				for i := range n { // as Crude tells them
					exposed := 1 + r.Intn(100000)
					seen[i] = big.NewRat(int64(r.Intn(exposed+1)), int64(exposed))
				}
				g, e := smooth.Graduate(fromBigs(seen), weights, order, h)
				if e != api.OK {
					t.Fatal(n, order, h, e)
				}
				wantLeast(t, fmt.Sprint("Graduate of ", n, ", ", order, " ", h), seen, weights, order, h, toBigs(g))
			}
		}
	}
	seen, weights := make([]*big.Rat, points), make([]int, points)
	for i := range points { // the longest that Crude tells
		seen[i] = big.NewRat(int64(r.Intn(api.MaxMoney)), int64(api.MaxMoney-1-r.Intn(1<<40)))
		weights[i] = heaviest - r.Intn(1000)
	}
	g, e := smooth.Graduate(fromBigs(seen), weights, api.MaxOrder, heaviest-1)
	if e != api.OK {
		t.Fatal(e)
	}
	wantLeast(t, "Graduate of long rates", seen, weights, api.MaxOrder, heaviest-1, toBigs(g))
}

// 10.2: where there is not just one: weights of 0 without smoothness, with not more numbers than the order, or with too few weights above 0.
func TestSingular(t *testing.T) {
	for order := 1; order <= api.MaxOrder; order++ {
		for n := 1; n <= 9; n++ {
			for bits := range 1 << n { // which weights are above 0
				weights := make([]int, n)
				for i := range n {
					weights[i] = (bits >> i & 1) * (1 + 5*i)
				}
				for _, h := range []int{0, 1, heaviest} {
					e := api.OK
					if isSingular(weights, order, h) {
						e = api.ErrSingular
					}
					_, got := smooth.Graduate(repeated(of("5/7"), n), weights, order, h)
					want(t, fmt.Sprint("Graduate by ", weights, " ", order, " ", h), got.Error(), e.Error())
					if n < 8 {
						_, got = smooth.Floats(repeated(5.5, n), weights, order, h)
						want(t, fmt.Sprint("Floats by ", weights, " ", order, " ", h), got.Error(), e.Error())
					}
				}
			}
		}
	}
	for order := 1; order <= api.MaxOrder; order++ { // just as many weights as the order, and one fewer, of many numbers
		weights := repeated(0, points)
		for k := range order {
			weights[k*(points-1)/max(order-1, 1)] = 7
		}
		g, e := smooth.Graduate(repeated(of("1/3"), points), weights, order, 9)
		want(t, "Graduate by few weights", tellList(g, e), tellList(repeated(of("1/3"), points), api.OK))
		weights[0] = 0
		want(t, "Graduate by one fewer", tellList(smooth.Graduate(repeated(of("1/3"), points), weights, order, 9)), refused(api.ErrSingular))
		want(t, "Graduate by none", tellList(smooth.Graduate(repeated(of("1/3"), points), repeated(0, points), order, heaviest)), refused(api.ErrSingular))
	}
}

// 10.2: of nothing there is nothing; of not more numbers than the order, and without smoothness, nothing changes.
func TestGraduateFew(t *testing.T) {
	long := "-" + nines(api.MaxDigits) + "/" + tenTo(api.MaxDigits-1)
	numbers := list("5/3 " + long + " 0 1/" + nines(api.MaxDigits) + " 7 8")
	for order := 1; order <= api.MaxOrder; order++ {
		for _, h := range []int{0, 1, heaviest} {
			for _, none := range [][]api.Ratio{nil, {}} {
				want(t, "Graduate of nothing", tellList(smooth.Graduate(none, nil, order, h)), "")
				want(t, "Graduate of nothing", tellList(smooth.Graduate(none, ints(), order, h)), "")
			}
			for n := 1; n <= len(numbers); n++ {
				if n <= order || h == 0 {
					want(t, fmt.Sprint("Graduate of ", n), tellList(smooth.Graduate(numbers[:n], repeated(heaviest, n), order, h)), tellList(numbers[:n], api.OK))
				}
			}
		}
		many := repeated(of(long), points)
		want(t, "Graduate of many without smoothness", tellList(smooth.Graduate(many, repeated(1, points), order, 0)), tellList(many, api.OK))
	}
}

// 10.2, R2: graduations of just MaxDigits digits, above and below, and of one more.
func TestGraduateLong(t *testing.T) {
	zeros := func(n int) string { return tenTo(n)[1:] }
	last := api.MaxDigits - 1
	for _, c := range []struct {
		what, seen string
		weights    []int
		wanted     string
	}{
		// two thirds and a third of the first
		{"most digits", "3" + zeros(last) + " 0", ints(1, 1), "2" + zeros(last) + "/1 1" + zeros(last) + "/1"},
		{"most digits below", "1/1" + zeros(last) + " 0", ints(1, 1), "1/15" + zeros(last-1) + " 1/3" + zeros(last)},
		{"one more below, the last one", "1/4" + zeros(last) + " 0", ints(1, 1), refused(api.ErrLong)},
		{"one more below, the first one", "0 1/4" + zeros(last), ints(1, 1), refused(api.ErrLong)},
		{"one more below, of the midst", "0 0 1/" + nines(api.MaxDigits) + " 0 0", ints(1, 1, 1, 1, 1), refused(api.ErrLong)},
		// a point without a weight may be as long as it likes
		{"long, without a weight", "7 7 1/" + nines(api.MaxDigits) + " 7", ints(2, 3, 0, 9), "7/1 7/1 7/1 7/1"},
	} {
		l := list(c.seen)
		want(t, "Graduate, "+c.what, tellList(smooth.Graduate(l, c.weights, 1, 1)), c.wanted)
		want(t, "graduation by another way, "+c.what, listed(graduation(toBigs(l), c.weights, 1, 1)...), c.wanted)
	}
	// beyond the line through the first two numbers
	up := list("0 " + nines(last) + " 0 0 0 0 0 0 0 0 0")
	g, e := smooth.Graduate(up, append(ints(1, 1), repeated(0, 9)...), 2, 1)
	if e != api.OK {
		t.Fatal(e)
	}
	want(t, "Graduate, a long line", tell(g[10], e), nines(last)+"0/1")
	up = append(up, of("0"))
	want(t, "Graduate, a line one longer", tellList(smooth.Graduate(up, append(ints(1, 1), repeated(0, 10)...), 2, 1)), refused(api.ErrLong))
}

// unsmoothed is what must have been seen so that g is the graduation.
func unsmoothed(g []*big.Rat, weights []int, order, smooth int) []*big.Rat {
	d := differences(g, order)
	seen := make([]*big.Rat, len(g))
	for i := range g {
		seen[i] = g[i]
		for k := 0; k <= order; k++ {
			if m := i - k; m >= 0 && m < len(d) {
				seen[i] = plus(seen[i], by(times(whole(smooth*s(order, k)), d[m]), whole(weights[i])))
			}
		}
	}
	return seen
}

// 10.2, R2: what was seen has no short common denominator, but the graduation is short.
func TestGraduateLongOnTheWay(t *testing.T) {
	r := random(1021)
	for _, c := range []struct{ n, order, digits int }{{14, 1, 1300}, {22, 2, 800}, {29, 3, 580}, {38, 4, 440}} {
		g := make([]*big.Rat, c.n)
		for i := range g {
			g[i] = new(big.Rat).SetFrac(randomInt(r, c.digits), randomInt(r, c.digits))
		}
		weights := make([]int, c.n)
		for i := range weights {
			weights[i] = 1 + r.Intn(99)
		}
		seen := unsmoothed(g, weights, c.order, 7)
		want(t, fmt.Sprint("Graduate ", c), tellList(smooth.Graduate(fromBigs(seen), weights, c.order, 7)), listed(g...))
		// with another number among them nothing is short any more
		seen[c.n/2] = new(big.Rat).SetFrac(randomInt(r, c.digits), randomInt(r, 4000))
		want(t, fmt.Sprint("Graduate ", c, ", one number changed"), tellList(smooth.Graduate(fromBigs(seen), weights, c.order, 7)), refused(api.ErrLong))
	}
}

// 10.2, R2: all of the graduation is short, but the last number, which has most digits, or one more.
func TestGraduateLongAtTheEnd(t *testing.T) {
	r := random(1022)
	for _, n := range []int{5, 24} { // with a common denominator that is not too long to reckon with, and without one
		for _, digits := range []int{api.MaxDigits, api.MaxDigits + 1} {
			g := make([]*big.Rat, n)
			for i := range g {
				g[i] = new(big.Rat).SetFrac(randomInt(r, 1000), randomInt(r, 1000))
			}
			g[n-3], g[n-2], g[n-1] = whole(0), whole(0), toBig(of("1/"+tenTo(digits-1)))
			weights := repeated(1, n)
			weights[n-2], weights[n-1] = 9, 10 // so that what was seen has a digit less
			seen := unsmoothed(g, weights, 1, 90)
			want(t, "what was seen", fmt.Sprint(listed(seen...) == refused(api.ErrLong)), "false")
			want(t, fmt.Sprint("Graduate of ", n, ", ", digits), tellList(smooth.Graduate(fromBigs(seen), weights, 1, 90)), listed(g...))
		}
	}
}

// 10.2: 1 by x, x + 1 and so on are so near to a line, if x is great, that their graduation has the same first digits; but it is another one, and too long.
func TestGraduateNearToAShortOne(t *testing.T) {
	x := toBig(of(tenTo(api.MaxDigits - 1)))
	for order := 2; order <= api.MaxOrder; order++ {
		for _, n := range []int{order + 1, 9} { // with a common denominator that is not too long to reckon with, and without one
			seen := make([]*big.Rat, n)
			for i := range seen {
				seen[i] = by(whole(1), plus(x, whole(i)))
			}
			want(t, fmt.Sprint("Graduate of ", n, ", order ", order), tellList(smooth.Graduate(fromBigs(seen), repeated(1, n), order, 1)), refused(api.ErrLong))
			want(t, "without smoothness", tellList(smooth.Graduate(fromBigs(seen), repeated(1, n), order, 0)), listed(seen...))
		}
	}
}

// 10.2, P1: many long numbers that have nothing in common are told soon.
func TestGraduateTooLong(t *testing.T) {
	r := random(1023)
	seen := make([]*big.Rat, points)
	for i := range seen {
		seen[i] = new(big.Rat).SetFrac(randomInt(r, api.MaxDigits), randomInt(r, api.MaxDigits))
	}
	for order := 1; order <= api.MaxOrder; order++ {
		want(t, "Graduate of long numbers", tellList(smooth.Graduate(fromBigs(seen), repeated(3, points), order, heaviest)), refused(api.ErrLong))
	}
	weights := repeated(0, points) // all but three have no weight
	weights[0], weights[1], weights[points-1] = 5, 6, 7
	for _, at := range []int{0, 1, points - 1} {
		seen[at] = big.NewRat(int64(at*at), 7)
	}
	g, e := smooth.Graduate(fromBigs(seen), weights, 3, 2)
	if e != api.OK {
		t.Fatal(e)
	}
	for i, x := range g {
		want(t, "Graduate of three weights", tell(x, e), big.NewRat(int64(i*i), 7).String())
	}
}
