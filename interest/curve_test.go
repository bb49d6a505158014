package interest_test

import (
	"fmt"
	"math"
	"math/big"
	"math/rand"
	"strings"
	"testing"

	"tontine/api"
	"tontine/interest"
)

// curveCalls are all calls that are given a list of rates.
func curveCalls() map[string]func(rates []int) ([]api.Ratio, api.Errno) {
	return map[string]func(rates []int) ([]api.Ratio, api.Errno){"Factors": interest.Factors, "Forwards": interest.Forwards, "Pars": interest.Pars, "Strip": interest.Strip}
}

// factors are v(0), v(1), ..
func factors(spots []int) []*big.Rat {
	l := []*big.Rat{whole(1)}
	for i, rate := range spots {
		l = append(l, power(up(rate), -i-1))
	}
	return l
}

// listed is what was reckoned for each year, or the error, if something was too long.
func listed(l []*big.Rat, isLong bool) string {
	texts := make([]string, len(l))
	for i, x := range l {
		texts[i] = x.String()
		isLong = isLong || longestPart(x) > api.MaxDigits
	}
	if isLong {
		return api.ErrLong.Error()
	}
	return strings.Join(texts, " ")
}

// pars are the coupons, and how many digits the longest sum has.
func pars(spots []int) ([]*big.Rat, int) {
	var l []*big.Rat
	sum, digits := new(big.Rat), 0
	for i, v := range factors(spots) {
		if i == 0 {
			continue
		}
		sum = plus(sum, v)
		digits = max(digits, longestPart(sum))
		l = append(l, by(plus(whole(1), minus(v)), sum))
	}
	return l, digits
}

// curves are lists of rates: none, one, some, as many as there may be; all alike, and not.
func curves(r *rand.Rand) [][]int {
	l := [][]int{nil, repeated(0, longest), repeated(api.MaxRate, longest), repeated(-unit+1, longest), repeated(500000, longest)}
	for _, rate := range rates {
		l = append(l, []int{rate})
	}
	for n := range 20 {
		curve := make([]int, 2+n*n%28)
		for i := range curve {
			curve[i] = anyRate(r)
		}
		l = append(l, curve)
	}
	return append(l, []int{1000000, 2000000, 1500000}, []int{-5000000, unit, -unit + 1, api.MaxRate, 0})
}

// anyCurve is MaxYears rates that have nothing in common.
func anyCurve(r *rand.Rand) []int {
	curve := make([]int, longest)
	for i := range curve {
		curve[i] = anyRate(r)
	}
	return curve
}

// 8.5: Factors and Forwards; 8.10: the product of 1 + Forwards up to k, times v(k), is 1.
func TestFactorsAndForwards(t *testing.T) {
	r := random(85)
	for _, spots := range append(curves(r), anyCurve(r), anyCurve(r)) {
		v := factors(spots)
		want(t, fmt.Sprint("Factors ", spots), tellList(interest.Factors(spots)), listed(v[1:], false))
		var wanted []*big.Rat
		for k := 1; k < len(v); k++ {
			wanted = append(wanted, plus(by(v[k-1], v[k]), whole(-1)))
		}
		got, e := interest.Forwards(spots)
		want(t, fmt.Sprint("Forwards ", spots), tellList(got, e), listed(wanted, false))
		product := whole(1)
		for i, f := range got {
			product = times(product, plus(whole(1), toBig(f)))
			want(t, "the product", times(product, v[i+1]).String(), "1/1")
		}
	}
}

// 8.5: Pars, where no sum and no answer is too long, and where one is.
func TestPars(t *testing.T) {
	r := random(850)
	longs := 0
	for _, spots := range append(curves(r), anyCurve(r)[:40]) {
		wanted, digits := pars(spots)
		text := listed(wanted, digits > api.MaxDigits)
		want(t, fmt.Sprint("Pars ", spots), tellList(interest.Pars(spots)), text)
		if text == api.ErrLong.Error() {
			longs++
		}
	}
	if longs == 0 {
		t.Error("no curve was too long")
	}
	want(t, "Pars of rates that have nothing in common", tellList(interest.Pars(anyCurve(r))), api.ErrLong.Error())
}

// steps are rates from first on, each so much greater than the one ahead; then some years have other ones.
func steps(first, step, years int, other map[int]int) []int {
	l := make([]int, years)
	for i := range l {
		l[i] = first + i*step
		if rate, ok := other[i+1]; ok {
			l[i] = rate
		}
	}
	return l
}

// 8.5, R2: sums of just MaxDigits digits, and of one more in the last year, though that year's coupon is nought.
func TestParsOfLongSums(t *testing.T) {
	zeros := map[int]int{36: 30000000, 37: 0, 38: 0, 39: 0, 40: 0, 41: 0, 42: 0, 43: 0}
	spots := steps(500001, 15838, 43, zeros)
	wanted, digits := pars(spots[:42])
	if digits != api.MaxDigits {
		t.Fatal("not the edge:", digits)
	}
	want(t, "Pars at the edge", tellList(interest.Pars(spots[:42])), listed(wanted, false))
	wanted, digits = pars(spots)
	if digits != api.MaxDigits+1 || wanted[42].Sign() != 0 {
		t.Fatal("not beyond the edge:", digits)
	}
	want(t, "Pars beyond the edge", tellList(interest.Pars(spots)), api.ErrLong.Error())
}

// 8.5, R2: a coupon of just MaxDigits digits; and one that is longer, though no sum is: v(19) and v(38) are parts of 9^19, but 27 divides their sum.
func TestParsOfLongAnswers(t *testing.T) {
	for _, c := range []struct {
		zeros  [2]int
		digits int
	}{{[2]int{5, 29}, api.MaxDigits}, {[2]int{1, 32}, api.MaxDigits + 1}} {
		spots := steps(500001, 15882, 38, map[int]int{19: 35000000, 37: 0, 38: -4000000, c.zeros[0]: 0, c.zeros[1]: 0})
		wanted, digits := pars(spots)
		if digits > api.MaxDigits || longestPart(wanted[37]) != c.digits {
			t.Fatal("not the edge:", digits, longestPart(wanted[37]))
		}
		want(t, "Pars", tellList(interest.Pars(spots)), listed(wanted, false))
		want(t, "Pars of all but the last year", tellList(interest.Pars(spots[:37])), listed(wanted[:37], false))
	}
}

// 8.5: Strip, by its words.
func TestStrip(t *testing.T) {
	r := random(851)
	for _, coupons := range append(curves(r), anyCurve(r), anyCurve(r)) {
		var wanted []*big.Rat
		sum := new(big.Rat)
		for _, rate := range coupons {
			c := rateOf(rate)
			w := by(plus(whole(1), minus(times(c, sum))), plus(whole(1), c))
			wanted = append(wanted, w)
			sum = plus(sum, w)
		}
		want(t, fmt.Sprint("Strip ", coupons), tellList(interest.Strip(coupons)), listed(wanted, longestPart(sum) > api.MaxDigits))
	}
}

// 8.10: Strip of whole Pars gives Factors: of curves that are flat, and of some whose second coupon is whole too.
func TestStripOfPars(t *testing.T) {
	curves := [][]int{{0, -5000000}, {0, unit}, {0, 2 * unit}}
	for _, rate := range rates {
		curves = append(curves, []int{rate}, repeated(rate, 5), repeated(rate, longest))
	}
	for _, spots := range curves {
		coupons, e := interest.Pars(spots)
		if e != api.OK {
			t.Fatal(spots, e)
		}
		asRates := make([]int, len(coupons))
		for i, c := range coupons {
			n := times(toBig(c), whole(unit))
			if !n.IsInt() {
				t.Fatal("no whole coupon:", spots, c)
			}
			asRates[i] = int(n.Num().Int64())
		}
		v, e := interest.Factors(spots)
		want(t, fmt.Sprint("Strip of Pars of ", spots), tellList(interest.Strip(asRates)), tellList(v, e))
	}
}

// 8.5: too many rates, ahead of all that is wrong with them; then the first that is none; none are none.
func TestWrongCurves(t *testing.T) {
	for name, call := range curveCalls() {
		want(t, name+" of none", tellList(call(nil)), "")
		want(t, name+" of none", tellList(call([]int{})), "")
		for _, rate := range append(noRates, 0) {
			want(t, name, tellList(call(repeated(rate, longest+1))), api.ErrLong.Error())
		}
		want(t, name, tellList(call(repeated(math.MinInt, api.MaxItems+1))), api.ErrLong.Error())
		for _, rate := range noRates {
			want(t, name, tellList(call([]int{rate})), api.ErrRange.Error())
			curve := anyCurve(random(852))
			curve[longest-1] = rate // ahead of any sum that is too long
			want(t, name, tellList(call(curve)), api.ErrRange.Error())
		}
		if l, e := call(repeated(1, longest)); e != api.OK || len(l) != longest {
			t.Errorf("%s of MaxYears rates: %d, %v", name, len(l), e)
		}
	}
}
