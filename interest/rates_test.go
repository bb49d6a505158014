package interest_test

import (
	"fmt"
	"math"
	"testing"

	"tontine/api"
	"tontine/interest"
)

// often are numbers of times; noTimes are none.
var (
	often   = []int{1, 2, 3, 4, 7, 12, 52, 365, 366}
	noTimes = []int{0, -1, 367, 1000, math.MinInt, math.MaxInt}
)

// 8.1: Grown and Discounted; 8.7: their product is 1.
func TestGrown(t *testing.T) {
	for _, rate := range rates {
		for _, years := range spans {
			what := fmt.Sprint(rate, " ", years)
			grown, e := interest.Grown(rate, years)
			want(t, "Grown "+what, tell(grown, e), power(up(rate), years).String())
			discounted, e := interest.Discounted(rate, years)
			want(t, "Discounted "+what, tell(discounted, e), power(up(rate), -years).String())
			want(t, "both of "+what, times(toBig(grown), toBig(discounted)).String(), "1/1")
		}
	}
}

// 8.1: Effective, which of one time a year is the rate itself.
func TestEffective(t *testing.T) {
	for _, rate := range rates {
		for _, n := range often {
			each := plus(whole(1), by(rateOf(rate), whole(n)))
			want(t, fmt.Sprint("Effective ", rate, " ", n), tell(interest.Effective(rate, n)), plus(power(each, n), whole(-1)).String())
		}
		want(t, "Effective of one time", tell(interest.Effective(rate, 1)), rateOf(rate).String())
	}
}

// 8.1: Nominal: of Lo Effective would be i or less, of Hi i or more, and no float lies between.
func TestNominal(t *testing.T) {
	r := random(81)
	for range 60 {
		checkNominal(t, anyRate(r), 1+r.Intn(40))
	}
	for _, rate := range rates {
		for _, n := range often {
			checkNominal(t, rate, n)
		}
	}
}

func checkNominal(t *testing.T, rate, n int) {
	t.Helper()
	s, e := interest.Nominal(rate, n)
	if e != api.OK || !areNext(s) {
		t.Fatalf("Nominal %d %d: %v %v", rate, n, s, e)
	}
	atLo, lo := besideRate(s.Lo, rate, n)
	atHi, hi := besideRate(s.Hi, rate, n)
	if !atLo || !atHi || lo > 0 || hi < 0 || (lo == 0) != (hi == 0) || (lo == 0) != (s.Lo == s.Hi) {
		t.Errorf("Nominal %d %d: %v: Effective of Lo beside i: %d, of Hi %d", rate, n, s, lo, hi)
	}
}

// besideRate tells whether 1 + x / n is above nought, and whether Effective of x is below i, is it, or is above it.
func besideRate(x float64, rate, n int) (bool, int) {
	each := plus(whole(1), by(numberOf(x), whole(n)))
	return each.Sign() > 0, power(each, n).Cmp(up(rate))
}

// 8.1: nominal rates that are floats' own numbers stand at both ends: nought as +0, -1 and below it too.
func TestNominalFloats(t *testing.T) {
	for _, c := range []struct {
		rate, times int
		j           float64
	}{
		{0, 1, 0}, {0, 2, 0}, {0, 366, 0},
		{5000000, 1, 0.5}, {-5000000, 1, -0.5}, {78125, 1, 0.0078125}, {-78125, 1, -0.0078125}, {api.MaxRate, 1, 10}, {5625000, 2, 0.5}, {-4375000, 2, -0.5}, {30000000, 2, 2},
		{-7500000, 2, -1}, {-9375000, 4, -2}, {-8750000, 3, -1.5}, {23750000, 3, 1.5}, {40625000, 4, 2}, {65937500, 5, 2.5}, {-9843750, 6, -3}, {70000000, 3, 3},
	} {
		want(t, fmt.Sprint("Nominal ", c.rate, " ", c.times), tellSpan(interest.Nominal(c.rate, c.times)), bits(c.j, c.j))
	}
	// -0.9 times 7 is no float, though the root is a fraction; -0.9999999 lies just above -1.
	want(t, "Nominal of a ten-millionth", tellSpan(interest.Nominal(-unit+1, 7)), bits(math.Nextafter(-6.3, -7), -6.3))
	want(t, "Nominal just above -1", tellSpan(interest.Nominal(-unit+1, 1)), bits(-0.9999999, math.Nextafter(-0.9999999, 0)))
}

// 8.1: what is out of its range.
func TestRatesOutOfRange(t *testing.T) {
	refused := api.ErrRange.Error()
	check := func(first, second int) {
		t.Helper()
		what := fmt.Sprint(" ", first, " ", second)
		want(t, "Grown"+what, tell(interest.Grown(first, second)), refused)
		want(t, "Discounted"+what, tell(interest.Discounted(first, second)), refused)
		want(t, "Effective"+what, tell(interest.Effective(first, second)), refused)
		want(t, "Nominal"+what, tellSpan(interest.Nominal(first, second)), refused)
	}
	for _, rate := range noRates {
		check(rate, 1)
		check(rate, longest)
		check(rate, -1)
	}
	for _, years := range noYears {
		want(t, "Grown", tell(interest.Grown(0, years)), refused)
		want(t, "Discounted", tell(interest.Discounted(0, years)), refused)
	}
	for _, n := range noTimes {
		want(t, "Effective", tell(interest.Effective(0, n)), refused)
		want(t, "Nominal", tellSpan(interest.Nominal(0, n)), refused)
	}
	want(t, "Effective, 0 times", tell(interest.Effective(1, 0)), refused)
}
