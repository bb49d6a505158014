package decrement_test

import (
	"fmt"
	"math"
	"math/big"
	"math/bits"
	"math/rand"
	"slices"
	"strings"
	"testing"

	"tontine/api"
	"tontine/decrement"
)

const (
	unit    = api.Unit
	oldest  = api.MaxAge
	longest = api.MaxYears
	most    = decrement.MaxCauses
)

// noYears are no years, from 0 to MaxYears.
var noYears = []int{-1, -2, longest + 1, 2 * longest, math.MinInt, math.MaxInt}

// interests are rates of interest at both ends of their range, and between.
var interests = []int{0, 1, 250000, api.MaxRate - 7, api.MaxRate}

// sample is the causes of the chapter's Examples 1 and 2.
func sample() api.Causes { return api.Causes{First: 30, Rates: [][]int{{1000000}, {2000000}}} }

// halves is the three causes of Example 1.
func halves() api.Causes { return causesOf(30, 3, 1, always(unit/2)) }

// causesOf is so many causes of so many ages from one on, whose rates are told by their places.
func causesOf(first, causes, ages int, rate func(cause, k int) int) api.Causes {
	c := api.Causes{First: first}
	for cause := range causes {
		l := make([]int, ages)
		for k := range l {
			l[k] = rate(cause, k)
		}
		c.Rates = append(c.Rates, l)
	}
	return c
}

func always(rate int) func(cause, k int) int { return func(int, int) int { return rate } }

// anyRate is a rate, now and then an end of the range.
func anyRate(r *rand.Rand) int {
	switch r.Intn(9) {
	case 0:
		return []int{0, 1, unit / 2, unit - 1, unit}[r.Intn(5)]
	case 1:
		return r.Intn(unit + 1)
	}
	return r.Intn(unit / 20)
}

// look is what is done with causes; what tells of them.
type look func(what string, c api.Causes)

// eachCauses goes over right causes of a few ages: of each number of causes, with rates at both ends of their range, several of Unit at once, and years that are as the one ahead.
func eachCauses(do look) {
	r := random(15)
	some := func(int, int) int { return anyRate(r) }
	list := []api.Causes{
		sample(), halves(),
		causesOf(0, 1, 1, always(0)), causesOf(oldest, 1, 1, always(unit)), causesOf(oldest, most, 1, always(unit)), causesOf(oldest-1, 2, 2, some),
		causesOf(0, most, 3, always(0)), causesOf(7, most, 3, always(1)), causesOf(7, most, 2, always(unit-1)), causesOf(20, 3, 4, always(unit)),
		causesOf(50, 4, 6, func(cause, k int) int { return []int{0, unit, 3, 70}[(cause+k)%4] }),
		causesOf(50, most, 5, func(cause, k int) int { return []int{0, 0, 12345, 0, 6789}[(cause+k/2)%5] }),
		causesOf(40, 2, 9, func(cause, k int) int { return 1000 * (cause + k/3) }),
	}
	for causes := 1; causes <= most; causes++ {
		list = append(list, causesOf(r.Intn(oldest-20), causes, 1+r.Intn(9), some), causesOf(r.Intn(oldest-20), causes, 2, some))
	}
	for _, c := range list {
		do(whatOf(c), c)
	}
}

// eachLongCauses goes over causes of all ages, or nearly, of which some stay to the end.
func eachLongCauses(do look) {
	r := random(1515)
	some := func(int, int) int { return r.Intn(unit / 20) }
	for _, c := range []api.Causes{
		causesOf(0, most, oldest+1, some), causesOf(0, 1, oldest+1, some), causesOf(0, 2, oldest+1, some), causesOf(1, 4, oldest, some),
		causesOf(0, most, oldest+1, always(unit/2)), causesOf(0, 3, oldest+1, always(0)), causesOf(0, most, oldest+1, always(1)), causesOf(0, 2, oldest+1, always(unit-1)),
		causesOf(0, 3, oldest+1, func(_, k int) int { return []int{7, 1000}[k/20%2] }),
	} {
		do(whatOf(c), c)
	}
}

func whatOf(c api.Causes) string {
	if len(c.Rates)*len(c.Rates[0]) < 30 {
		return fmt.Sprint(c)
	}
	return fmt.Sprintf("%d causes of %d ages from %d on, the first one's rates %v", len(c.Rates), len(c.Rates[0]), c.First, c.Rates[0])
}

// lastOf is the age Last.
func lastOf(c api.Causes) int { return c.First + len(c.Rates[0]) - 1 }

// yearsOf are both ends of the years, the first ones, and those about the last years from an age on.
func yearsOf(c api.Causes, age int) []int {
	left := lastOf(c) - age + 1
	var years []int
	for _, n := range []int{0, 1, 2, left / 2, left - 1, left, left + 1, longest} {
		if n >= 0 && n <= longest && !slices.Contains(years, n) {
			years = append(years, n)
		}
	}
	return years
}

// agesOf are the ages First and Last, and one between.
func agesOf(c api.Causes) []int {
	ages := []int{c.First, lastOf(c), (c.First + lastOf(c)) / 2}
	slices.Sort(ages)
	return slices.Compact(ages)
}

// atAge is the causes' rates at an age.
func atAge(c api.Causes, age int) []int {
	var rates []int
	for _, l := range c.Rates {
		rates = append(rates, l[age-c.First])
	}
	return rates
}

// stayOf is the product of all 1 - u q.
func stayOf(rates []int, u *big.Rat) *big.Rat {
	stay := rat(1, 1)
	for _, rate := range rates {
		stay = times(stay, minus(rat(1, 1), times(u, rat(int64(rate), unit))))
	}
	return stay
}

// leftOf is the chance to have left by a cause up to the part u: the product of all other causes' 1 - s q, multiplied out choice by choice, each power of s for itself from 0 to u.
func leftOf(rates []int, cause int, u *big.Rat) *big.Rat {
	others := slices.Delete(slices.Clone(rates), cause, cause+1)
	products := []*big.Int{big.NewInt(1)} // of each choice of the others
	bySize := make([]*big.Int, len(rates))
	for i := range bySize {
		bySize[i] = new(big.Int)
	}
	bySize[0].SetInt64(1)
	for choice := 1; choice < 1<<len(others); choice++ {
		top := bits.Len(uint(choice)) - 1
		product := new(big.Int).Mul(products[choice-1<<top], big.NewInt(int64(others[top])))
		products = append(products, product)
		size := bits.OnesCount(uint(choice))
		bySize[size].Add(bySize[size], product)
	}
	sum, power := new(big.Rat), rat(1, 1)
	for size, n := range bySize {
		part := times(power, new(big.Rat).SetFrac(n, pow(unit, size)))
		part = times(part, rat(1, int64(size+1)))
		if size%2 == 0 {
			sum = plus(sum, part)
		} else {
			sum = minus(sum, part)
		}
		power = times(power, u)
	}
	return times(times(sum, u), rat(int64(rates[cause]), unit))
}

// fates is what becomes of those who are there, year by year from an age on up to Last: whole numbers of by.
type fates struct {
	by   *big.Int
	stay []*big.Int
	gone [][]*big.Int
}

func fatesOf(c api.Causes, age int) fates {
	f := fates{by: new(big.Int).Mul(pow(unit, len(c.Rates)), big.NewInt(840))}
	scaled := func(x *big.Rat) *big.Int { return times(x, new(big.Rat).SetInt(f.by)).Num() }
	for ; age <= lastOf(c); age++ {
		rates := atAge(c, age)
		f.stay = append(f.stay, scaled(stayOf(rates, rat(1, 1))))
		var gone []*big.Int
		for cause := range rates {
			gone = append(gone, scaled(leftOf(rates, cause, rat(1, 1))))
		}
		f.gone = append(f.gone, gone)
	}
	return f
}

// staying is the chance to stay so many years.
func (f fates) staying(years int) *big.Rat {
	if years > len(f.stay) {
		return new(big.Rat)
	}
	product := big.NewInt(1)
	for _, n := range f.stay[:years] {
		product.Mul(product, n)
	}
	return new(big.Rat).SetFrac(product, new(big.Int).Exp(f.by, big.NewInt(int64(years)), nil))
}

// leaving is the chances to have left within so many years, cause by cause.
func (f fates) leaving(years int) []*big.Rat {
	years = min(years, len(f.stay))
	var chances []*big.Rat
	for cause := range f.gone[0] {
		sum, there := new(big.Int), big.NewInt(1)
		for k := range years {
			sum.Mul(sum, f.by)
			sum.Add(sum, new(big.Int).Mul(there, f.gone[k][cause]))
			there.Mul(there, f.stay[k])
		}
		chances = append(chances, new(big.Rat).SetFrac(sum, new(big.Int).Exp(f.by, big.NewInt(int64(years)), nil)))
	}
	return chances
}

func pow(x int64, n int) *big.Int { return new(big.Int).Exp(big.NewInt(x), big.NewInt(int64(n)), nil) }

func random(seed int64) *rand.Rand { return rand.New(rand.NewSource(seed)) }

func want(t *testing.T, what, got, want string) {
	t.Helper()
	if got != want {
		t.Errorf("%s: %s, want %s", short(what), short(got), short(want))
	}
}

// short is a text that may be very long, so that it can be told.
func short(s string) string {
	if len(s) <= 400 {
		return s
	}
	return fmt.Sprintf("%s..%s (%d bytes)", s[:190], s[len(s)-190:], len(s))
}

// told is what a call answered, or its error; what stands beside an error must be nothing (R5).
func told(answer string, e api.Errno, isNothing bool) string {
	switch {
	case e == api.OK:
		return answer
	case !isNothing:
		return "something beside " + e.Error()
	}
	return e.Error()
}

func refused(e api.Errno) string { return e.Error() }

func tellRatio(r api.Ratio, e api.Errno) string {
	return told(r.Num+"/"+r.Den, e, r == api.Ratio{})
}

func tellRatios(l []api.Ratio, e api.Errno) string {
	texts := make([]string, len(l))
	for i, r := range l {
		texts[i] = tellRatio(r, api.OK)
	}
	return told(strings.Join(texts, " "), e, len(l) == 0)
}

func tellCauses(c api.Causes, e api.Errno) string {
	return told(fmt.Sprint(c), e, c.First == 0 && len(c.Rates) == 0)
}

func tellTable(a api.Table, e api.Errno) string {
	return told(fmt.Sprint(a), e, a.Name == "" && a.First == 0 && len(a.Rates) == 0 && len(a.Select) == 0)
}

// tellFloats tells floats bit by bit (R8).
func tellFloats(l []float64, e api.Errno) string {
	var texts []string
	for _, x := range l {
		texts = append(texts, fmt.Sprintf("%x", math.Float64bits(x)))
	}
	return told(strings.Join(texts, " "), e, len(l) == 0)
}

// wanted is how an exact number must be told: if it has too many digits, by ErrLong (R2).
func wanted(x *big.Rat) string {
	if digitsOf(x) > api.MaxDigits {
		return refused(api.ErrLong)
	}
	return x.String()
}

// wantedAll is how a list of exact numbers must be told.
func wantedAll(l []*big.Rat) string {
	var texts []string
	for _, x := range l {
		texts = append(texts, x.String())
		if digitsOf(x) > api.MaxDigits {
			return refused(api.ErrLong)
		}
	}
	return strings.Join(texts, " ")
}

// digitsOf is how many digits an exact number has, above or below.
func digitsOf(x *big.Rat) int {
	return max(len(new(big.Int).Abs(x.Num()).String()), len(x.Denom().String()))
}

// number is what a call that is right answered.
func number(t *testing.T, r api.Ratio, e api.Errno) *big.Rat {
	t.Helper()
	x, ok := new(big.Rat).SetString(r.Num + "/" + r.Den)
	if e != api.OK || !ok {
		t.Fatal("no number:", r, e)
	}
	return x
}

// numbers is what a call that is right answered.
func numbers(t *testing.T, l []api.Ratio, e api.Errno) []*big.Rat {
	t.Helper()
	if e != api.OK {
		t.Fatal("no numbers:", e)
	}
	var all []*big.Rat
	for _, r := range l {
		all = append(all, number(t, r, e))
	}
	return all
}

// ratioOf is x as it is handed in.
func ratioOf(x *big.Rat) api.Ratio { return api.Ratio{Num: x.Num().String(), Den: x.Denom().String()} }

func sumOf(l []*big.Rat) *big.Rat {
	sum := new(big.Rat)
	for _, x := range l {
		sum.Add(sum, x)
	}
	return sum
}

func rat(p, q int64) *big.Rat { return big.NewRat(p, q) }

func plus(x, y *big.Rat) *big.Rat { return new(big.Rat).Add(x, y) }

func minus(x, y *big.Rat) *big.Rat { return new(big.Rat).Sub(x, y) }

func times(x, y *big.Rat) *big.Rat { return new(big.Rat).Mul(x, y) }
