package column_test

import (
	"fmt"
	"math"
	"math/big"
	"math/rand"
	"strconv"
	"strings"
	"testing"

	"tontine/api"
)

const (
	unit    = api.Unit
	oldest  = api.MaxAge
	longest = api.MaxYears
)

// noYears are no years, from 0 to MaxYears.
var noYears = []int{-1, -2, longest + 1, 2 * longest, math.MinInt, math.MaxInt}

// interests are rates of interest at both ends of their range, and between.
var interests = []int{0, 1, 250000, api.MaxRate - 7, api.MaxRate}

// kinds are those of benefits.
var kinds = []int{api.BAssure, api.BEndow, api.BBoth, api.BDue, api.BLate, api.BRising, api.BFalling}

// ages is the table of the chapter's examples.
func ages() api.Table {
	return api.Table{Name: "t", First: 60, Rates: []int{1000000, 2000000, 5000000, unit}}
}

// sample is the basis of the chapter's examples, and their life.
func sample() (api.Basis, api.Life) {
	return api.Basis{Table: ages(), Rate: 250000}, api.Life{Entry: 60}
}

// broken is a basis that is not right, by ErrForm, ErrAge, ErrRates and ErrRange all at once.
func broken() api.Basis {
	return api.Basis{Table: api.Table{Name: "T", First: -1, Rates: []int{-1}}, Rate: -1}
}

// changed is a copy of the table of the examples with Select, to which something was done.
func changed(change func(t *api.Table)) api.Table {
	t := ages()
	t.Select = [][]int{{500000, 1000000, 2500000, unit}}
	change(&t)
	return t
}

// tableOf is a table of so many rates from an age on, and of so many of Select's members, all told by their places; the last ones are Unit.
func tableOf(first, count, members int, rate func(d, k int) int) api.Table {
	list := func(d, length int) []int {
		l := make([]int, length)
		for k := range l {
			l[k] = rate(d, k)
		}
		l[length-1] = unit
		return l
	}
	t := api.Table{Name: "made_12", First: first, Rates: list(members, count)}
	for d := range members {
		t.Select = append(t.Select, list(d, count-d))
	}
	return t
}

func always(rate int) func(d, k int) int { return func(int, int) int { return rate } }

// anyRate is a rate below Unit, sometimes an end of the range.
func anyRate(r *rand.Rand) int {
	switch r.Intn(9) {
	case 0:
		return []int{0, 1, unit / 2, unit - 1}[r.Intn(4)]
	case 1:
		return r.Intn(unit)
	}
	return r.Intn(unit / 20)
}

// tables are right tables: of one age, of all ages, with no Select, with as many members as there may be, and as there are Rates; with rates at the ends of their range.
func tables() []api.Table {
	r := random(12)
	some := func(int, int) int { return anyRate(r) }
	l := []api.Table{
		ages(), changed(func(*api.Table) {}),
		tableOf(0, 1, 0, some), tableOf(oldest, 1, 1, some), tableOf(77, 2, 2, some),
		tableOf(20, 4, 4, some), tableOf(20, api.MaxSelect, api.MaxSelect, some), tableOf(20, api.MaxSelect+1, api.MaxSelect, some),
		tableOf(30, 9, 0, always(unit/2)), tableOf(0, 7, 1, always(0)), tableOf(0, 7, 1, always(1)), tableOf(5, 7, 2, always(unit-1)),
	}
	for range 4 {
		count := 1 + r.Intn(12)
		l = append(l, tableOf(r.Intn(oldest-20), count, r.Intn(min(count, api.MaxSelect)+1), some))
	}
	return l
}

// longTables are tables of all ages, or nearly.
func longTables() []api.Table {
	r := random(1212)
	some := func(int, int) int { return r.Intn(unit / 20) }
	return []api.Table{
		tableOf(0, oldest+1, 0, some), tableOf(0, oldest+1, api.MaxSelect, some), tableOf(1, oldest, 3, func(int, int) int { return anyRate(r) }),
		tableOf(0, oldest+1, 2, always(0)), tableOf(0, oldest+1, 0, always(unit-1)), tableOf(0, oldest+1, 0, always(1)),
	}
}

// livesOf are lives of a table: at its first and its last age, taken on now, a year ago, when Select ends, and as long ago as may be.
func livesOf(t api.Table) []api.Life {
	var l []api.Life
	count := len(t.Rates)
	for k := range count {
		for years := range count - k {
			first, last := k == 0, k+years == count-1
			if first && (years == 0 || years == len(t.Select)) || last && (k == 0 || years == 0) || count <= 12 && (k+years)%3 == 1 && years < 2 {
				l = append(l, api.Life{Entry: t.First + k, Years: years})
			}
		}
	}
	return l
}

// eachLife goes over bases of short tables and their lives; eachLong over those of long ones.
func eachLife(do func(what string, b api.Basis, l api.Life)) {
	for _, t := range tables() {
		eachOf(t, interests, livesOf(t), do)
	}
}

func eachLong(do func(what string, b api.Basis, l api.Life)) {
	for i, t := range longTables() {
		eachOf(t, []int{interests[i%len(interests)]}, livesOf(t), do)
	}
	eachOf(longTables()[0], interests, []api.Life{{}, {Entry: 20, Years: 3}}, do)
}

func eachOf(t api.Table, interests []int, lives []api.Life, do func(what string, b api.Basis, l api.Life)) {
	for _, rate := range interests {
		for _, l := range lives {
			what := fmt.Sprintf("%d rates from %d on (%d select) at %d of %v", len(t.Rates), t.First, len(t.Select), rate, l)
			do(what, api.Basis{Table: t, Rate: rate}, l)
		}
	}
}

// noLives are lives that are not of a table.
func noLives(t api.Table) []api.Life {
	end := t.First + len(t.Rates) - 1
	return []api.Life{
		{Entry: t.First - 1}, {Entry: end + 1}, {Entry: t.First, Years: -1}, {Entry: end, Years: 1}, {Entry: t.First, Years: len(t.Rates)},
		{Entry: t.First - 1, Years: 1}, {Entry: end + 1, Years: -1}, {Entry: math.MinInt}, {Entry: math.MaxInt}, {Entry: math.MaxInt, Years: math.MaxInt},
		{Entry: math.MinInt, Years: math.MinInt}, {Entry: t.First, Years: math.MaxInt}, {Entry: end, Years: math.MaxInt - 3}, {Entry: end, Years: math.MinInt},
	}
}

// ratesOf is a life's rates in 0, 1, 2 .. years, as many as there are, by chapter 9's Words.
func ratesOf(t api.Table, l api.Life) []int {
	var rates []int
	for n := 0; l.Entry+l.Years+n <= t.First+len(t.Rates)-1; n++ {
		if l.Years+n < len(t.Select) {
			rates = append(rates, t.Select[l.Years+n][l.Entry-t.First])
		} else {
			rates = append(rates, t.Rates[l.Entry+l.Years+n-t.First])
		}
	}
	return rates
}

func whole(n int) *big.Rat { return new(big.Rat).SetInt64(int64(n)) }

// part is a rate by Unit.
func part(rate int) *big.Rat { return big.NewRat(int64(rate), unit) }

func plus(x, y *big.Rat) *big.Rat { return new(big.Rat).Add(x, y) }

func minus(x, y *big.Rat) *big.Rat { return new(big.Rat).Sub(x, y) }

func times(x, y *big.Rat) *big.Rat { return new(big.Rat).Mul(x, y) }

// discount is v.
func discount(b api.Basis) *big.Rat { return big.NewRat(unit, int64(unit+b.Rate)) }

// line is the names of the six columns, in their order.
var line = []string{"D", "N", "S", "C", "M", "R"}

// exactColumns are the exact columns, by the Words: for each of the six m + 1 lines.
func exactColumns(b api.Basis, l api.Life) map[string][]*big.Rat {
	rates, v := ratesOf(b.Table, l), discount(b)
	m := len(rates)
	alive, power := []*big.Rat{whole(1)}, []*big.Rat{whole(1)}
	for n, q := range rates {
		alive = append(alive, times(alive[n], minus(whole(1), part(q))))
		power = append(power, times(power[n], v))
	}
	all := map[string][]*big.Rat{}
	for n := range m {
		all["D"] = append(all["D"], times(power[n], alive[n]))
		all["C"] = append(all["C"], times(power[n+1], minus(alive[n], alive[n+1])))
	}
	all["D"], all["C"] = append(all["D"], times(power[m], alive[m])), append(all["C"], whole(0))
	for _, of := range []string{"ND", "SN", "MC", "RM"} {
		column := all[of[1:]]
		sums := make([]*big.Rat, m+1)
		sum := whole(0)
		for n := m; n >= 0; n-- {
			sum = plus(sum, column[n])
			sums[n] = sum
		}
		all[of[:1]] = sums
	}
	return all
}

// atLine is a line of a column, and nought behind its last one.
func atLine(column []*big.Rat, n int) *big.Rat {
	if n < len(column) {
		return column[n]
	}
	return whole(0)
}

// payments are what a benefit pays on a death in the year k, by chapter 13's Words: how much at which time.
func payments(f api.Benefit, k int) map[int]int {
	end, paid := f.Wait+f.Term, map[int]int{}
	in := f.Wait <= k && k < end
	switch f.Kind {
	case api.BAssure, api.BBoth:
		if in {
			paid[k+1]++
		}
	case api.BRising:
		if in {
			paid[k+1] = k - f.Wait + 1
		}
	case api.BFalling:
		if in {
			paid[k+1] = end - k
		}
	case api.BDue:
		for t := f.Wait; t < end && t <= k; t++ {
			paid[t]++
		}
	case api.BLate:
		for t := f.Wait + 1; t <= end && t <= k; t++ {
			paid[t]++
		}
	}
	if (f.Kind == api.BEndow || f.Kind == api.BBoth) && k >= end {
		paid[end]++
	}
	return paid
}

// exactWorth is what a benefit is worth, by chapter 13's Words: the mean of what it pays, over all years in which one may die.
func exactWorth(b api.Basis, l api.Life, f api.Benefit) *big.Rat {
	rates, v := ratesOf(b.Table, l), discount(b)
	powers, alive, value := []*big.Rat{whole(1)}, whole(1), whole(0)
	for k, rate := range rates {
		powers = append(powers, times(powers[k], v)) // with nothing sure no payment is later than the year's end
		comes := whole(0)
		for t, amount := range payments(f, k) {
			comes = plus(comes, times(whole(amount), powers[t]))
		}
		dies := times(alive, part(rate))
		value = plus(value, times(dies, comes))
		alive = minus(alive, dies)
	}
	return value
}

// benefitsFor are benefits of a kind whose Wait and Term reach to m, to just behind it, and past it, and are at their ends.
func benefitsFor(kind, m int) []api.Benefit {
	seen := map[api.Benefit]bool{}
	var l []api.Benefit
	add := func(wait, term int) {
		f := api.Benefit{Kind: kind, Wait: wait, Term: term}
		if wait >= 0 && wait <= longest && term >= 1 && term <= longest && !seen[f] {
			seen[f] = true
			l = append(l, f)
		}
	}
	for _, wait := range []int{0, 1, m / 2, m - 2, m - 1, m, m + 1, longest} {
		for _, term := range []int{1, 2, m - wait - 1, m - wait, m - wait + 1, longest} {
			add(wait, term)
		}
	}
	return l
}

// noBenefits are benefits that may not be here: each has one part just beyond an end, or far beyond.
func noBenefits() []api.Benefit {
	var l []api.Benefit
	for _, kind := range []int{0, -1, 8, 9, math.MinInt, math.MaxInt} {
		l = append(l, api.Benefit{Kind: kind, Term: 1})
	}
	for _, kind := range kinds {
		for _, wait := range noYears {
			l = append(l, api.Benefit{Kind: kind, Wait: wait, Term: 1})
		}
		for _, term := range append(noYears, 0) {
			l = append(l, api.Benefit{Kind: kind, Term: term})
		}
		for _, sure := range []int{1, -1, 2, math.MinInt, math.MaxInt} {
			l = append(l, api.Benefit{Kind: kind, Term: 2, Sure: sure})
		}
	}
	return append(l, api.Benefit{}, api.Benefit{Kind: api.BDue}, api.Benefit{Kind: api.BDue, Wait: math.MaxInt, Term: math.MaxInt}, api.Benefit{Kind: api.BLate, Wait: longest + 1, Term: -longest})
}

func random(seed int64) *rand.Rand { return rand.New(rand.NewSource(seed)) }

func want(t *testing.T, what, got, want string) {
	t.Helper()
	if got != want {
		t.Errorf("%s: %s, want %s", short(what), short(got), short(want))
	}
}

// short is a text that may be very long, so that it can be told.
func short(s string) string {
	if len(s) <= 400 {
		return s
	}
	return fmt.Sprintf("%s..%s (%d bytes)", s[:190], s[len(s)-190:], len(s))
}

// told is what a call answered, or its error; what stands beside an error must be nothing (R5).
func told(answer string, e api.Errno, isNothing bool) string {
	switch {
	case e == api.OK:
		return answer
	case !isNothing:
		return "something beside " + e.Error()
	}
	return e.Error()
}

func refused(e api.Errno) string { return e.Error() }

// bits is a float, bit by bit (R8).
func bits(x float64) string { return strconv.FormatUint(math.Float64bits(x), 16) }

func tellFloat(x float64, e api.Errno) string { return told(bits(x), e, bits(x) == bits(0)) }

func tellSpan(s api.Span, e api.Errno) string {
	return told(bits(s.Lo)+" to "+bits(s.Hi), e, bits(s.Lo)+bits(s.Hi) == bits(0)+bits(0))
}

// listed is a list's members.
func listed[T any](l []T, tell func(x T, e api.Errno) string) string {
	texts := make([]string, len(l))
	for i, x := range l {
		texts[i] = tell(x, api.OK)
	}
	return strings.Join(texts, " ")
}

// sixOf is six columns by their names.
func sixOf[T any](d, n, s, c, m, r []T) map[string][]T {
	return map[string][]T{"D": d, "N": n, "S": s, "C": c, "M": m, "R": r}
}

func floatsOf(c api.Columns) map[string][]float64 { return sixOf(c.D, c.N, c.S, c.C, c.M, c.R) }

func spansOf(c api.SpanColumns) map[string][]api.Span { return sixOf(c.D, c.N, c.S, c.C, c.M, c.R) }

func tellSix[T any](six map[string][]T, e api.Errno, tell func(x T, e api.Errno) string) string {
	var texts []string
	members := 0
	for _, name := range line {
		texts = append(texts, name+" "+listed(six[name], tell))
		members += len(six[name])
	}
	return told(strings.Join(texts, "; "), e, members == 0)
}

func tellColumns(c api.Columns, e api.Errno) string { return tellSix(floatsOf(c), e, tellFloat) }

func tellSpanColumns(c api.SpanColumns, e api.Errno) string { return tellSix(spansOf(c), e, tellSpan) }

func ratiosOf(c api.Column) []api.Ratio { return []api.Ratio{c.D, c.N, c.S, c.C, c.M, c.R} }

func tellColumn(c api.Column, e api.Errno) string {
	var texts []string
	for i, r := range ratiosOf(c) {
		texts = append(texts, line[i]+" "+r.Num+"/"+r.Den)
	}
	return told(strings.Join(texts, "; "), e, c == api.Column{})
}

// lineOf is what the line n of the exact columns is told as.
func lineOf(all map[string][]*big.Rat, n int) string {
	var texts []string
	for _, name := range line {
		texts = append(texts, name+" "+atLine(all[name], n).String())
	}
	return strings.Join(texts, "; ")
}

// isIn tells whether an exact number is in a span with finite ends.
func isIn(x *big.Rat, s api.Span) bool {
	return new(big.Rat).SetFloat64(s.Lo).Cmp(x) <= 0 && x.Cmp(new(big.Rat).SetFloat64(s.Hi)) <= 0
}
