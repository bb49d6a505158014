package value_test

import (
	"fmt"
	"math"
	"math/big"
	"math/rand"
	"slices"
	"strconv"
	"strings"
	"testing"

	"tontine/api"
)

const (
	unit    = api.Unit
	oldest  = api.MaxAge
	longest = api.MaxYears
	latest  = 2 * api.MaxYears // no payment is later than that
)

// noYears are no years, from 0 to MaxYears.
var noYears = []int{-1, -2, longest + 1, 2 * longest, math.MinInt, math.MaxInt}

// interests are rates of interest at both ends of their range, and between.
var interests = []int{0, 1, 250000, api.MaxRate - 7, api.MaxRate}

// kinds are those of benefits; sureKinds those of which payments may be sure.
var (
	kinds     = []int{api.BAssure, api.BEndow, api.BBoth, api.BDue, api.BLate, api.BRising, api.BFalling}
	sureKinds = []int{api.BDue, api.BLate}
)

// ages is the table of the chapter's examples.
func ages() api.Table {
	return api.Table{Name: "t", First: 60, Rates: []int{1000000, 2000000, 5000000, unit}}
}

// sample is the basis of the chapter's examples, and their life.
func sample() (api.Basis, api.Life) {
	return api.Basis{Table: ages(), Rate: 250000}, api.Life{Entry: 60}
}

// broken is a basis that is not right, by ErrForm, ErrAge, ErrRates and ErrRange all at once.
func broken() api.Basis {
	return api.Basis{Table: api.Table{Name: "T", First: -1, Rates: []int{-1}}, Rate: -1}
}

// changed is a copy of the table of the examples with Select, to which something was done.
func changed(change func(t *api.Table)) api.Table {
	t := ages()
	t.Select = [][]int{{500000, 1000000, 2500000, unit}}
	change(&t)
	return t
}

// tableOf is a table of so many rates from an age on, and of so many of Select's members, all told by their places; the last ones are Unit.
func tableOf(first, count, members int, rate func(d, k int) int) api.Table {
	list := func(d, length int) []int {
		l := make([]int, length)
		for k := range l {
			l[k] = rate(d, k)
		}
		l[length-1] = unit
		return l
	}
	t := api.Table{Name: "made_13", First: first, Rates: list(members, count)}
	for d := range members {
		t.Select = append(t.Select, list(d, count-d))
	}
	return t
}

func always(rate int) func(d, k int) int { return func(int, int) int { return rate } }

// anyRate is a rate below Unit, sometimes an end of the range.
func anyRate(r *rand.Rand) int {
	switch r.Intn(9) {
	case 0:
		return []int{0, 1, unit / 2, unit - 1}[r.Intn(4)]
	case 1:
		return r.Intn(unit)
	}
	return r.Intn(unit / 20)
}

// tables are right tables: of one age, whose first rate is Unit; with no Select, with as many members as there may be, and as there are Rates; with rates at the ends of their range, all 0 but the last one too.
func tables() []api.Table {
	r := random(13)
	some := func(int, int) int { return anyRate(r) }
	l := []api.Table{
		ages(), changed(func(*api.Table) {}),
		tableOf(0, 1, 0, some), tableOf(oldest, 1, 1, some), tableOf(77, 2, 2, some),
		tableOf(20, 4, 4, some), tableOf(20, api.MaxSelect+1, api.MaxSelect, some),
		tableOf(30, 9, 0, always(unit/2)), tableOf(0, 7, 1, always(0)), tableOf(0, 7, 1, always(1)), tableOf(5, 7, 2, always(unit-1)),
	}
	for range 3 {
		count := 1 + r.Intn(12)
		l = append(l, tableOf(r.Intn(oldest-20), count, r.Intn(min(count, api.MaxSelect)+1), some))
	}
	return l
}

// longTables are tables of all ages, or nearly.
func longTables() []api.Table {
	r := random(1313)
	some := func(int, int) int { return r.Intn(unit / 20) }
	return []api.Table{
		tableOf(0, oldest+1, 0, some), tableOf(0, oldest+1, api.MaxSelect, some), tableOf(1, oldest, 3, func(int, int) int { return anyRate(r) }),
		tableOf(0, oldest+1, 2, always(0)), tableOf(0, oldest+1, 0, always(unit-1)), tableOf(0, oldest+1, 0, always(1)),
	}
}

// livesOf are lives of a table: at its first and its last age, taken on now, a year ago, when Select ends, and as long ago as may be.
func livesOf(t api.Table) []api.Life {
	var l []api.Life
	count := len(t.Rates)
	for k := range count {
		for years := range count - k {
			first, last := k == 0, k+years == count-1
			if first && (years == 0 || years == len(t.Select)) || last && (k == 0 || years == 0) || count <= 12 && (k+years)%4 == 1 && years < 2 {
				l = append(l, api.Life{Entry: t.First + k, Years: years})
			}
		}
	}
	return l
}

// eachLife goes over bases of short tables and their lives; eachLong over those of long ones.
func eachLife(do func(what string, b api.Basis, l api.Life)) {
	for _, t := range tables() {
		eachOf(t, interests, livesOf(t), do)
	}
}

func eachLong(do func(what string, b api.Basis, l api.Life)) {
	for i, t := range longTables() {
		eachOf(t, []int{interests[i%len(interests)]}, livesOf(t), do)
	}
	eachOf(longTables()[0], interests, []api.Life{{}, {Entry: 20, Years: 3}}, do)
}

func eachOf(t api.Table, interests []int, lives []api.Life, do func(what string, b api.Basis, l api.Life)) {
	for _, rate := range interests {
		for _, l := range lives {
			what := fmt.Sprintf("%d rates from %d on (%d select) at %d of %v", len(t.Rates), t.First, len(t.Select), rate, l)
			do(what, api.Basis{Table: t, Rate: rate}, l)
		}
	}
}

// noLives are lives that are not of a table.
func noLives(t api.Table) []api.Life {
	end := t.First + len(t.Rates) - 1
	return []api.Life{
		{Entry: t.First - 1}, {Entry: end + 1}, {Entry: t.First, Years: -1}, {Entry: end, Years: 1}, {Entry: t.First, Years: len(t.Rates)},
		{Entry: t.First - 1, Years: 1}, {Entry: end + 1, Years: -1}, {Entry: math.MinInt}, {Entry: math.MaxInt}, {Entry: math.MaxInt, Years: math.MaxInt},
		{Entry: math.MinInt, Years: math.MinInt}, {Entry: t.First, Years: math.MaxInt}, {Entry: end, Years: math.MaxInt - 3}, {Entry: end, Years: math.MinInt},
	}
}

// ratesOf is a life's rates in 0, 1, 2 .. years, as many as there are, by chapter 9's Words.
func ratesOf(t api.Table, l api.Life) []int {
	var rates []int
	for n := 0; l.Entry+l.Years+n <= t.First+len(t.Rates)-1; n++ {
		if l.Years+n < len(t.Select) {
			rates = append(rates, t.Select[l.Years+n][l.Entry-t.First])
		} else {
			rates = append(rates, t.Rates[l.Entry+l.Years+n-t.First])
		}
	}
	return rates
}

// benefitsFor are benefits of a kind, for a life with m rates: Wait and Term are at their ends, and reach to the last year, to just behind it, and past it; of Sure all that is told apart.
func benefitsFor(kind, m int) []api.Benefit {
	seen := map[api.Benefit]bool{}
	var l []api.Benefit
	add := func(f api.Benefit) {
		if isRight(f) && !seen[f] {
			seen[f] = true
			l = append(l, f)
		}
	}
	for _, wait := range []int{0, 1, m / 2, m - 2, m - 1, m, m + 1, longest} {
		for _, term := range []int{1, 2, m - wait - 1, m - wait, m - wait + 1, longest} {
			add(api.Benefit{Kind: kind, Wait: wait, Term: term})
			if slices.Contains(sureKinds, kind) {
				for _, sure := range []int{1, 2, term / 2, term - 1, term} {
					add(api.Benefit{Kind: kind, Wait: wait, Term: term, Sure: sure})
				}
			}
		}
	}
	return l
}

// someOf are so many of a list, or all, if it is not longer.
func someOf[T any](r *rand.Rand, l []T, count int) []T {
	l = slices.Clone(l)
	r.Shuffle(len(l), func(i, j int) { l[i], l[j] = l[j], l[i] })
	return l[:min(count, len(l))]
}

// eachBenefit goes over lives of short tables, and so many benefits of each kind for each of them; of the examples' life over all of them.
func eachBenefit(count int, do func(what string, b api.Basis, l api.Life, f api.Benefit)) {
	r := random(int64(count))
	example, first := sample()
	eachLife(func(what string, b api.Basis, l api.Life) {
		for _, kind := range kinds {
			all := benefitsFor(kind, len(ratesOf(b.Table, l)))
			if b.Table.Name != example.Table.Name || b.Rate != example.Rate || l != first {
				all = someOf(r, all, count)
			}
			for _, f := range all {
				do(fmt.Sprint(f, " of ", what), b, l, f)
			}
		}
	})
}

// eachLongBenefit goes over lives of long tables, and so many benefits of each kind for each of them.
func eachLongBenefit(count int, do func(what string, b api.Basis, l api.Life, f api.Benefit)) {
	r := random(int64(1000 + count))
	eachLong(func(what string, b api.Basis, l api.Life) {
		for _, kind := range kinds {
			all := benefitsFor(kind, len(ratesOf(b.Table, l)))
			for range 20 {
				f := api.Benefit{Kind: kind, Wait: r.Intn(longest + 1), Term: 1 + r.Intn(longest)}
				if slices.Contains(sureKinds, kind) {
					f.Sure = r.Intn(f.Term + 1)
				}
				all = append(all, f)
			}
			for _, f := range someOf(r, all, count) {
				do(fmt.Sprint(f, " of ", what), b, l, f)
			}
		}
	})
}

// isRight tells whether a benefit is, by the Words.
func isRight(f api.Benefit) bool {
	most := 0
	if slices.Contains(sureKinds, f.Kind) {
		most = f.Term
	}
	return slices.Contains(kinds, f.Kind) && f.Wait >= 0 && f.Wait <= longest && f.Term >= 1 && f.Term <= longest && f.Sure >= 0 && f.Sure <= most
}

// noBenefits are benefits that are not right: each has one part just beyond an end, or far beyond.
func noBenefits() []api.Benefit {
	var l []api.Benefit
	for _, kind := range []int{0, -1, 8, 9, math.MinInt, math.MaxInt} {
		l = append(l, api.Benefit{Kind: kind, Term: 1})
	}
	for _, kind := range kinds {
		for _, wait := range noYears {
			l = append(l, api.Benefit{Kind: kind, Wait: wait, Term: 1})
		}
		for _, term := range append(noYears, 0) {
			l = append(l, api.Benefit{Kind: kind, Term: term})
		}
		for _, sure := range []int{-1, math.MinInt, math.MaxInt} {
			l = append(l, api.Benefit{Kind: kind, Term: 2, Sure: sure})
		}
		if slices.Contains(sureKinds, kind) {
			l = append(l, api.Benefit{Kind: kind, Term: 2, Sure: 3}, api.Benefit{Kind: kind, Wait: 5, Term: longest, Sure: longest + 1}, api.Benefit{Kind: kind, Term: -1, Sure: -1}, api.Benefit{Kind: kind, Term: longest + 1, Sure: longest + 1})
		} else {
			l = append(l, api.Benefit{Kind: kind, Term: 2, Sure: 1}, api.Benefit{Kind: kind, Term: 2, Sure: 2})
		}
	}
	return append(l, api.Benefit{}, api.Benefit{Kind: api.BDue}, api.Benefit{Kind: api.BDue, Wait: math.MaxInt, Term: math.MaxInt}, api.Benefit{Kind: api.BLate, Wait: longest + 1, Term: -longest})
}

func random(seed int64) *rand.Rand { return rand.New(rand.NewSource(seed)) }

func want(t *testing.T, what, got, want string) {
	t.Helper()
	if got != want {
		t.Errorf("%s: %s, want %s", short(what), short(got), short(want))
	}
}

// short is a text that may be very long, so that it can be told.
func short(s string) string {
	if len(s) <= 400 {
		return s
	}
	return fmt.Sprintf("%s..%s (%d bytes)", s[:190], s[len(s)-190:], len(s))
}

// told is what a call answered, or its error; what stands beside an error must be nothing (R5).
func told(answer string, e api.Errno, isNothing bool) string {
	switch {
	case e == api.OK:
		return answer
	case !isNothing:
		return "something beside " + e.Error()
	}
	return e.Error()
}

func refused(e api.Errno) string { return e.Error() }

// bits is a float, bit by bit (R8).
func bits(x float64) string { return strconv.FormatUint(math.Float64bits(x), 16) }

func tellFloat(x float64, e api.Errno) string { return told(bits(x), e, bits(x) == bits(0)) }

func tellSpan(s api.Span, e api.Errno) string {
	return told(bits(s.Lo)+" to "+bits(s.Hi), e, bits(s.Lo)+bits(s.Hi) == bits(0)+bits(0))
}

func tellRatio(r api.Ratio, e api.Errno) string {
	return told(r.Num+"/"+r.Den, e, r == api.Ratio{})
}

func tellRatios(l []api.Ratio, e api.Errno) string {
	texts := make([]string, len(l))
	for i, r := range l {
		texts[i] = tellRatio(r, api.OK)
	}
	return told(strings.Join(texts, " "), e, len(l) == 0)
}

func tellFlows(l []api.Flow, e api.Errno) string {
	texts := make([]string, len(l))
	for i, x := range l {
		texts[i] = fmt.Sprint(x.Amount, " at ", x.Time)
	}
	return told(strings.Join(texts, ", "), e, len(l) == 0)
}

// number is what a call that is right answered.
func number(t *testing.T, r api.Ratio, e api.Errno) *big.Rat {
	t.Helper()
	x, ok := new(big.Rat).SetString(r.Num + "/" + r.Den)
	if e != api.OK || !ok {
		t.Fatal("no number:", r, e)
	}
	return x
}

// ratioOf is an exact number as one hands it in.
func ratioOf(x *big.Rat) api.Ratio { return api.Ratio{Num: x.Num().String(), Den: x.Denom().String()} }

func rat(p, q int64) *big.Rat { return big.NewRat(p, q) }

func plus(x, y *big.Rat) *big.Rat { return new(big.Rat).Add(x, y) }

func minus(x, y *big.Rat) *big.Rat { return new(big.Rat).Sub(x, y) }

func times(x, y *big.Rat) *big.Rat { return new(big.Rat).Mul(x, y) }

// power is v to the n.
func power(b api.Basis, n int) *big.Rat {
	exp := big.NewInt(int64(n))
	return new(big.Rat).SetFrac(new(big.Int).Exp(big.NewInt(unit), exp, nil), new(big.Int).Exp(big.NewInt(int64(unit+b.Rate)), exp, nil))
}

// isIn tells whether an exact number is in a span with finite ends.
func isIn(x *big.Rat, s api.Span) bool {
	return new(big.Rat).SetFloat64(s.Lo).Cmp(x) <= 0 && x.Cmp(new(big.Rat).SetFloat64(s.Hi)) <= 0
}
