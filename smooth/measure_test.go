package smooth_test

import (
	"fmt"
	"math"
	"math/big"
	"testing"

	"tontine/api"
	"tontine/smooth"
)

// fit is F, by the Words.
func fit(seen []*big.Rat, weights []int, g []*big.Rat) *big.Rat {
	sum := new(big.Rat)
	for i := range seen {
		miss := minus(seen[i], g[i])
		sum.Add(sum, times(whole(weights[i]), times(miss, miss)))
	}
	return sum
}

// roughness is R, by the Words.
func roughness(g []*big.Rat, order int) *big.Rat {
	sum := new(big.Rat)
	for _, d := range differences(g, order) {
		sum.Add(sum, times(d, d))
	}
	return sum
}

// moment is the sum of w(i) i^power (g(i) - u(i)), with 0^0 = 1.
func moment(seen []*big.Rat, weights []int, g []*big.Rat, power int) *big.Rat {
	sum := new(big.Rat)
	for i := range seen {
		factor := new(big.Int).Exp(big.NewInt(int64(i)), big.NewInt(int64(power)), nil)
		part := times(new(big.Rat).SetInt(factor), minus(g[i], seen[i]))
		sum.Add(sum, times(whole(weights[i]), part))
	}
	return sum
}

// 10.2: F and R of any numbers, and their moments.
func TestMeasureAndMoment(t *testing.T) {
	r := random(103)
	for i := range 250 {
		n := i % 12
		if i%50 == 49 {
			n = points
		}
		digits := 1 + r.Intn(6)
		u, g, weights := anyNumbers(r, n, digits), anyNumbers(r, n, digits), anyWeights(r, n)
		for order := 1; order <= api.MaxOrder; order++ {
			what := fmt.Sprint("Measure ", u, weights, order, g)
			want(t, what, tellTwo(smooth.Measure(fromBigs(u), weights, order, fromBigs(g))), listed(fit(u, weights, g), roughness(g, order)))
		}
		for power := 0; power <= api.MaxOrder; power++ {
			what := fmt.Sprint("Moment ", u, weights, g, power)
			want(t, what, tell(smooth.Moment(fromBigs(u), weights, fromBigs(g), power)), listed(moment(u, weights, g, power)))
		}
	}
}

// 10.2: of nothing, of one number, of not more than the order; weights of 0, and all of them.
func TestMeasureAtEdges(t *testing.T) {
	for _, c := range []struct {
		seen    string
		weights []int
		order   int
		l       string
		wanted  string
	}{
		{"", nil, 1, "", "0/1 0/1"}, {"", nil, 4, "", "0/1 0/1"}, {"3", ints(2), 1, "5/2", "1/2 0/1"}, {"3", ints(0), 4, "5/2", "0/1 0/1"}, {"3", ints(heaviest), 1, "4", "1000000000/1 0/1"},
		{"1 2", ints(1, 1), 2, "1 2", "0/1 0/1"}, {"1 2", ints(1, 1), 1, "1 2", "0/1 1/1"}, {"1 2 4", ints(1, 1, 1), 2, "1 2 4", "0/1 1/1"}, {"9 9 9", ints(0, 0, 0), 1, "0 1/2 0", "0/1 1/2"}, {"9 9 9", ints(0, 1, 0), 1, "0 1/2 0", "289/4 1/2"},
		{"0 0 0 0 0", ints(1, 2, 3, 4, 5), 4, "1 0 0 0 0", "1/1 1/1"}, {"0 0 0 0 0", ints(1, 2, 3, 4, 5), 4, "0 0 -1 0 0", "3/1 36/1"},
	} {
		want(t, fmt.Sprint("Measure ", c), tellTwo(smooth.Measure(list(c.seen), c.weights, c.order, list(c.l))), c.wanted)
	}
}

// 10.2: 0 to the power 0 is 1, and to others 0; the greatest place, weight and power.
func TestMomentAtEdges(t *testing.T) {
	for power := 0; power <= api.MaxOrder; power++ {
		first := "0/1"
		if power == 0 {
			first = "35/2"
		}
		want(t, "Moment of nothing", tell(smooth.Moment(nil, nil, nil, power)), "0/1")
		want(t, fmt.Sprint("Moment of one ", power), tell(smooth.Moment(list("1/2"), ints(7), list("3"), power)), first)
		want(t, fmt.Sprint("Moment of the second one ", power), tell(smooth.Moment(list("9 1/2"), ints(0, 7), list("9 3"), power)), "35/2")
		seen, l := repeated(of("0"), points), with(repeated(of("0"), points), points-1, of("-1"))
		most := new(big.Int).Exp(big.NewInt(points-1), big.NewInt(int64(power)), nil)
		most.Mul(most, big.NewInt(-heaviest))
		want(t, fmt.Sprint("Moment of the last place ", power), tell(smooth.Moment(seen, repeated(heaviest, points), l, power)), most.String()+"/1")
	}
	for _, power := range []int{-1, api.MaxOrder + 1, math.MinInt, math.MaxInt} {
		want(t, fmt.Sprint("Moment ", power), tell(smooth.Moment(list("1 2"), ints(1, 1), list("1 2"), power)), refused(api.ErrRange))
		want(t, fmt.Sprint("Moment of nothing ", power), tell(smooth.Moment(nil, nil, nil, power)), refused(api.ErrRange))
	}
}

// 10.2, R2: F, R and moments of just MaxDigits digits, and of one more; both are refused, if one is too long.
func TestMeasureLong(t *testing.T) {
	half := api.MaxDigits / 2
	square := nines(half-1) + "8" + tenTo(half - 1)[1:] + "1" // of so many nines
	for _, c := range []struct {
		what, seen, l string
		order         int
		wanted        string
	}{
		{"most digits of F", nines(half) + " 0", "0 0", 1, square + "/1 0/1"},
		{"one more of F", tenTo(half) + " 0", "0 0", 1, refused(api.ErrLong)},
		{"most digits of F below", "0 0", "1/" + nines(half) + " 0", 2, "1/" + square + " 0/1"},
		{"one more of F below", "0 0", "0 1/" + tenTo(half), 2, refused(api.ErrLong)},
		{"most digits of R", "0 -" + nines(half), "0 -" + nines(half), 1, "0/1 " + square + "/1"},
		{"one more of R", "0 " + tenTo(half), "0 " + tenTo(half), 1, refused(api.ErrLong)},
		{"of R below, too", "0 1/" + tenTo(half), "0 1/" + tenTo(half), 1, refused(api.ErrLong)},
		{"no R", "0 " + tenTo(half), "0 " + tenTo(half), 2, "0/1 0/1"},
		{"both are long", "0 0", "0 " + tenTo(half), 1, refused(api.ErrLong)},
		{"long, but the same", nines(api.MaxDigits) + " 1/" + nines(api.MaxDigits), nines(api.MaxDigits) + " 1/" + nines(api.MaxDigits), 2, "0/1 0/1"},
	} {
		u, g := list(c.seen), list(c.l)
		want(t, "Measure, "+c.what, tellTwo(smooth.Measure(u, ints(1, 1), c.order, g)), c.wanted)
		want(t, "F and R by another way, "+c.what, listed(fit(toBigs(u), ints(1, 1), toBigs(g)), roughness(toBigs(g), c.order)), c.wanted)
	}
	long := nines(api.MaxDigits)
	want(t, "Moment of most digits", tell(smooth.Moment(list("-"+nines(api.MaxDigits-1)), ints(1), list("9"+tenTo(api.MaxDigits - 1)[1:]), 0)), long+"/1")
	want(t, "Moment of one more", tell(smooth.Moment(list("-"+tenTo(api.MaxDigits-1)), ints(1), list("9"+tenTo(api.MaxDigits - 1)[1:]), 0)), refused(api.ErrLong))
	want(t, "Moment of one more by a weight", tell(smooth.Moment(list("0"), ints(2), list(long), 0)), refused(api.ErrLong))
	want(t, "Moment of one more below", tell(smooth.Moment(list("0 1/11"), ints(1, 1), list("1/"+tenTo(api.MaxDigits-1)+" 0"), 0)), refused(api.ErrLong))
	want(t, "Moment without the long one", tell(smooth.Moment(list("0 1/11"), ints(1, 1), list("1/"+tenTo(api.MaxDigits-1)+" 0"), 1)), "-1/11")
}

// gauss is x + y i.
type gauss struct{ x, y *big.Int }

func (a gauss) times(b gauss) gauss {
	p := func(m, n *big.Int) *big.Int { return new(big.Int).Mul(m, n) }
	return gauss{new(big.Int).Sub(p(a.x, b.x), p(a.y, b.y)), new(big.Int).Add(p(a.x, b.y), p(a.y, b.x))}
}

func (a gauss) norm() *big.Int {
	return new(big.Int).Add(new(big.Int).Mul(a.x, a.x), new(big.Int).Mul(a.y, a.y))
}

// cut is n by p q, as two parts of which the first is by p and the second by q.
func cut(n, p, q *big.Int) (*big.Rat, *big.Rat) {
	part := new(big.Int).Mul(n, new(big.Int).ModInverse(q, p))
	first := new(big.Rat).SetFrac(part.Mod(part, p), p)
	return first, minus(new(big.Rat).SetFrac(n, new(big.Int).Mul(p, q)), first)
}

// 10.2, R2: what is summed is far longer than an answer, but the sum is 1: sides of triangles with a right angle whose long side is 1.
func TestMeasureLongOnTheWay(t *testing.T) {
	r := random(1030)
	const digits = api.MaxDigits/2 - 20
	z, other := gauss{randomInt(r, digits), randomInt(r, digits)}, gauss{randomInt(r, digits), randomInt(r, digits)}
	p, q := z.norm(), other.norm()
	for new(big.Int).GCD(nil, nil, p, q).Cmp(big.NewInt(1)) != 0 {
		q.Set(other.times(gauss{big.NewInt(1), big.NewInt(2)}).norm())
	}
	both := z.times(other)
	both = both.times(both) // its sides are x and y, the long one p q
	x1, x2 := cut(both.x, p, q)
	y1, y2 := cut(both.y, p, q)
	seen := []*big.Rat{x1, y1}
	l := []*big.Rat{new(big.Rat).Neg(x2), new(big.Rat).Neg(y2)}
	want(t, "what is summed is long", fmt.Sprint(isLong(minus(seen[0], l[0]))), "true")
	want(t, "Measure", tellTwo(smooth.Measure(fromBigs(seen), ints(3, 3), 2, fromBigs(l))), "3/1 0/1")
	one := z.times(z)
	d1, d2 := new(big.Rat).SetFrac(one.x, p), new(big.Rat).SetFrac(one.y, p)
	g := []*big.Rat{whole(5), plus(whole(5), d1), plus(plus(whole(5), d1), d2)}
	want(t, "Measure", tellTwo(smooth.Measure(fromBigs(g), ints(1, 1, 1), 1, fromBigs(g))), "0/1 1/1")
}

// 10.2, R2, P1: sums of many long numbers: too long, and told soon; and such that come to something short.
func TestMomentLongOnTheWay(t *testing.T) {
	r := random(1031)
	seen, l := make([]*big.Rat, points), make([]*big.Rat, points)
	for i := range points {
		seen[i] = new(big.Rat).SetFrac(randomInt(r, api.MaxDigits), randomInt(r, api.MaxDigits))
		l[i] = new(big.Rat).SetFrac(randomInt(r, api.MaxDigits), randomInt(r, api.MaxDigits))
	}
	u, g, ones := fromBigs(seen), fromBigs(l), repeated(1, points)
	want(t, "Moment of long numbers", tell(smooth.Moment(u, ones, g, 1)), refused(api.ErrLong))
	want(t, "Measure of long numbers", tellTwo(smooth.Measure(u, ones, 1, g)), refused(api.ErrLong))
	want(t, "Measure of long numbers without weights", tellTwo(smooth.Measure(u, repeated(0, points), api.MaxOrder, g)), refused(api.ErrLong))
	for i := range points / 2 { // the first ones are the last ones, the other way about
		u[points-1-i], g[points-1-i] = g[i], u[i]
	}
	u[points/2], g[points/2] = of("1/3"), of("1/2")
	want(t, "Moment of what cancels out", tell(smooth.Moment(u, ones, g, 0)), "1/6")
	want(t, "Moment of what does not", tell(smooth.Moment(u, ones, g, 1)), refused(api.ErrLong))
}

// 10.2: differences of a high order of 1 by x are very near to nought, but are not: so no moment may be taken for what it is near to.
func TestMomentNearToAShortOne(t *testing.T) {
	x, _ := new(big.Int).SetString(tenTo(api.MaxDigits-1), 10)
	const order = 8
	var seen, l []*big.Rat
	for j := range int64(order + 1) {
		part := new(big.Rat).SetFrac(new(big.Int).Binomial(order, j), new(big.Int).Add(x, big.NewInt(j)))
		if j%2 == 1 {
			part.Neg(part)
		}
		seen, l = append(seen, whole(0)), append(l, part)
	}
	want(t, "Moment near to 0", tell(smooth.Moment(fromBigs(seen), repeated(1, order+1), fromBigs(l), 0)), refused(api.ErrLong))
	seen, l = append(seen, big.NewRat(2, 7)), append(l, whole(0))
	want(t, "Moment near to -2/7", tell(smooth.Moment(fromBigs(seen), repeated(1, order+2), fromBigs(l), 0)), refused(api.ErrLong))
	for j := range order + 1 {
		seen, l = append(seen, l[j]), append(l, whole(0))
	}
	want(t, "Moment that is -2/7", tell(smooth.Moment(fromBigs(seen), repeated(1, len(l)), fromBigs(l), 0)), "-2/7")
}
