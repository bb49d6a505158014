package joint_test

import (
	"fmt"
	"math"
	"math/big"
	"math/rand"
	"strings"
	"testing"

	"tontine/api"
)

const (
	unit    = api.Unit
	oldest  = api.MaxAge
	longest = api.MaxYears
	most    = api.MaxParty
)

// noYears are no years, from 0 to MaxYears.
var noYears = []int{-1, -2, longest + 1, 2 * longest, math.MinInt, math.MaxInt}

// interests are rates of interest at both ends of their range, and between.
var interests = []int{0, 1, 250000, api.MaxRate - 7, api.MaxRate}

// ages is the table of the chapter's examples.
func ages() api.Table {
	return api.Table{Name: "t", First: 60, Rates: []int{1000000, 2000000, 5000000, unit}}
}

// sample is the basis of the chapter's examples, and their party.
func sample() (api.Basis, []api.Life) {
	return api.Basis{Table: ages()}, []api.Life{{Entry: 60}, {Entry: 61}}
}

// broken is a basis that is not right, by ErrForm, ErrAge, ErrRates and ErrRange all at once.
func broken() api.Basis {
	return api.Basis{Table: api.Table{Name: "T", First: -1, Rates: []int{-1}}, Rate: -1}
}

// changed is a copy of the table of the examples with Select, to which something was done.
func changed(change func(t *api.Table)) api.Table {
	t := ages()
	t.Select = [][]int{{500000, 1000000, 2500000, unit}}
	change(&t)
	return t
}

// tableOf is a table of so many rates from an age on, and of so many of Select's members, all told by their places; the last ones are Unit.
func tableOf(first, count, members int, rate func(d, k int) int) api.Table {
	list := func(d, length int) []int {
		l := make([]int, length)
		for k := range l {
			l[k] = rate(d, k)
		}
		l[length-1] = unit
		return l
	}
	t := api.Table{Name: "made_14", First: first, Rates: list(members, count)}
	for d := range members {
		t.Select = append(t.Select, list(d, count-d))
	}
	return t
}

func always(rate int) func(d, k int) int { return func(int, int) int { return rate } }

// anyRate is a rate below Unit, sometimes an end of the range.
func anyRate(r *rand.Rand) int {
	switch r.Intn(9) {
	case 0:
		return []int{0, 1, unit / 2, unit - 1}[r.Intn(4)]
	case 1:
		return r.Intn(unit)
	}
	return r.Intn(unit / 20)
}

// tables are right tables: of one age, whose first rate is Unit; with no Select, with as many members as there may be, and as there are Rates; with rates at the ends of their range, all 0 but the last one too.
func tables() []api.Table {
	r := random(14)
	some := func(int, int) int { return anyRate(r) }
	l := []api.Table{
		ages(), changed(func(*api.Table) {}),
		tableOf(0, 1, 0, some), tableOf(oldest, 1, 1, some), tableOf(77, 2, 2, some), tableOf(40, 3, 0, some), tableOf(41, 3, 1, some),
		tableOf(20, 4, 4, some), tableOf(20, api.MaxSelect+1, api.MaxSelect, some),
		tableOf(30, 9, 0, always(unit/2)), tableOf(0, 7, 1, always(0)), tableOf(0, 7, 1, always(1)), tableOf(5, 7, 2, always(unit-1)),
	}
	for range 3 {
		count := 1 + r.Intn(12)
		l = append(l, tableOf(r.Intn(oldest-20), count, r.Intn(min(count, api.MaxSelect)+1), some))
	}
	return l
}

// longTables are tables of all ages, or nearly.
func longTables() []api.Table {
	r := random(1414)
	some := func(int, int) int { return r.Intn(unit / 20) }
	return []api.Table{
		tableOf(0, oldest+1, 0, some), tableOf(0, oldest+1, api.MaxSelect, some), tableOf(1, oldest, 3, func(int, int) int { return anyRate(r) }),
		tableOf(0, oldest+1, 2, always(0)), tableOf(0, oldest+1, 0, always(unit-1)), tableOf(0, oldest+1, 0, always(1)),
	}
}

// anyLife is a life of a table, often at its first or its last age, taken on now or some years ago.
func anyLife(r *rand.Rand, t api.Table) api.Life {
	count := len(t.Rates)
	k := []int{0, count - 1, r.Intn(count), r.Intn(count)}[r.Intn(4)]
	years := []int{0, count - 1 - k, min(len(t.Select), count-1-k), r.Intn(count - k)}[r.Intn(4)]
	return api.Life{Entry: t.First + k, Years: years}
}

// partyOf is a party of so many lives of a table, of whom now and then one is there twice.
func partyOf(r *rand.Rand, t api.Table, lives int) []api.Life {
	var party []api.Life
	for i := range lives {
		if i > 0 && r.Intn(5) == 0 {
			party = append(party, party[r.Intn(i)])
		} else {
			party = append(party, anyLife(r, t))
		}
	}
	return party
}

// patternFor is payments for a party of so many: any amounts, 0 and both ends of the range among them.
func patternFor(r *rand.Rand, lives int) []int {
	var pays []int
	for range lives + 1 {
		pays = append(pays, []int{0, 1, -1, api.MaxMoney, -api.MaxMoney, r.Intn(1000), r.Intn(2*api.MaxMoney+1) - api.MaxMoney}[r.Intn(7)])
	}
	return pays
}

// look is what is done with a party: what tells of it, and times are years that are worth to be looked at.
type look func(what string, b api.Basis, party []api.Life, times []int)

// eachParty goes over bases of short tables, with parties of each number of lives for each of them.
func eachParty(do look) {
	r := random(140)
	for _, t := range tables() {
		for lives := 1; lives <= most; lives++ {
			b := api.Basis{Table: t, Rate: interests[r.Intn(len(interests))]}
			party := partyOf(r, t, lives)
			do(whatOf(b, party), b, party, timesOf(t, party))
		}
	}
}

// eachSmallParty goes over bases of short tables, with parties of which all worlds can be gone through, without interest always.
func eachSmallParty(do look) {
	r := random(141)
	for _, t := range tables() {
		for lives := 1; lives <= most; lives++ {
			for i, interest := range interests {
				if lives > 2 && i > 0 && r.Intn(3) > 0 { // all of them would take too long
					continue
				}
				party := partyOf(r, t, lives)
				b := api.Basis{Table: t, Rate: interest}
				if worldsOf(b, party) <= 150 {
					do(whatOf(b, party), b, party, timesOf(t, party))
				}
			}
		}
	}
}

// eachLongParty goes over bases of long tables, with parties of each number of lives.
func eachLongParty(do look) {
	r := random(142)
	for i, t := range longTables() {
		for lives := 1; lives <= most; lives++ {
			b := api.Basis{Table: t, Rate: interests[(i+lives)%len(interests)]}
			party := partyOf(r, t, lives)
			for k := range []int{1, 0, lives}[lives%3] { // one who is there for all years, none, all
				party[k] = api.Life{Entry: t.First + k}
			}
			do(whatOf(b, party), b, party, timesOf(t, party))
		}
	}
}

func whatOf(b api.Basis, party []api.Life) string {
	return fmt.Sprintf("%v of %d rates from %d on (%d select) at %d", party, len(b.Table.Rates), b.Table.First, len(b.Table.Select), b.Rate)
}

// timesOf are both ends of the years, the first ones, and those about the last years of the life that is the oldest, and of that which is the youngest.
func timesOf(t api.Table, party []api.Life) []int {
	least, greatest := longest, 0
	for _, l := range party {
		least, greatest = min(least, len(ratesOf(t, l))), max(greatest, len(ratesOf(t, l)))
	}
	seen := map[int]bool{}
	var times []int
	for _, n := range []int{0, 1, 2, least - 1, least, least + 1, (least + greatest) / 2, greatest - 1, greatest, greatest + 1, longest} {
		if n >= 0 && n <= longest && !seen[n] {
			seen[n] = true
			times = append(times, n)
		}
	}
	return times
}

// noLives are lives that are not of a table.
func noLives(t api.Table) []api.Life {
	end := t.First + len(t.Rates) - 1
	return []api.Life{
		{Entry: t.First - 1}, {Entry: end + 1}, {Entry: t.First, Years: -1}, {Entry: end, Years: 1}, {Entry: t.First, Years: len(t.Rates)},
		{Entry: t.First - 1, Years: 1}, {Entry: end + 1, Years: -1}, {Entry: math.MinInt}, {Entry: math.MaxInt}, {Entry: math.MaxInt, Years: math.MaxInt},
		{Entry: math.MinInt, Years: math.MinInt}, {Entry: t.First, Years: math.MaxInt}, {Entry: end, Years: math.MaxInt - 3}, {Entry: end, Years: math.MinInt},
	}
}

// ratesOf is a life's rates in 0, 1, 2 .. years, as many as there are, by chapter 9's Words.
func ratesOf(t api.Table, l api.Life) []int {
	var rates []int
	for n := 0; l.Entry+l.Years+n <= t.First+len(t.Rates)-1; n++ {
		if l.Years+n < len(t.Select) {
			rates = append(rates, t.Select[l.Years+n][l.Entry-t.First])
		} else {
			rates = append(rates, t.Rates[l.Entry+l.Years+n-t.First])
		}
	}
	return rates
}

func random(seed int64) *rand.Rand { return rand.New(rand.NewSource(seed)) }

func want(t *testing.T, what, got, want string) {
	t.Helper()
	if got != want {
		t.Errorf("%s: %s, want %s", short(what), short(got), short(want))
	}
}

// short is a text that may be very long, so that it can be told.
func short(s string) string {
	if len(s) <= 400 {
		return s
	}
	return fmt.Sprintf("%s..%s (%d bytes)", s[:190], s[len(s)-190:], len(s))
}

// told is what a call answered, or its error; what stands beside an error must be nothing (R5).
func told(answer string, e api.Errno, isNothing bool) string {
	switch {
	case e == api.OK:
		return answer
	case !isNothing:
		return "something beside " + e.Error()
	}
	return e.Error()
}

func refused(e api.Errno) string { return e.Error() }

func tellRatio(r api.Ratio, e api.Errno) string {
	return told(r.Num+"/"+r.Den, e, r == api.Ratio{})
}

func tellRatios(l []api.Ratio, e api.Errno) string {
	texts := make([]string, len(l))
	for i, r := range l {
		texts[i] = tellRatio(r, api.OK)
	}
	return told(strings.Join(texts, " "), e, len(l) == 0)
}

// wanted is how an exact number must be told: if it has too many digits, by ErrLong (R2).
func wanted(x *big.Rat) string {
	if digitsOf(x) > api.MaxDigits {
		return refused(api.ErrLong)
	}
	return x.String()
}

// wantedAll is how a list of exact numbers must be told.
func wantedAll(l []*big.Rat) string {
	var texts []string
	for _, x := range l {
		texts = append(texts, x.String())
		if digitsOf(x) > api.MaxDigits {
			return refused(api.ErrLong)
		}
	}
	return strings.Join(texts, " ")
}

// digitsOf is how many digits an exact number has, above or below.
func digitsOf(x *big.Rat) int {
	return max(len(new(big.Int).Abs(x.Num()).String()), len(x.Denom().String()))
}

// number is what a call that is right answered.
func number(t *testing.T, r api.Ratio, e api.Errno) *big.Rat {
	t.Helper()
	x, ok := new(big.Rat).SetString(r.Num + "/" + r.Den)
	if e != api.OK || !ok {
		t.Fatal("no number:", r, e)
	}
	return x
}

// numbers is what a call that is right answered.
func numbers(t *testing.T, l []api.Ratio, e api.Errno) []*big.Rat {
	t.Helper()
	var all []*big.Rat
	for _, r := range l {
		all = append(all, number(t, r, e))
	}
	return all
}

func rat(p, q int64) *big.Rat { return big.NewRat(p, q) }

func plus(x, y *big.Rat) *big.Rat { return new(big.Rat).Add(x, y) }

func minus(x, y *big.Rat) *big.Rat { return new(big.Rat).Sub(x, y) }

func times(x, y *big.Rat) *big.Rat { return new(big.Rat).Mul(x, y) }

// power is v to the n.
func power(b api.Basis, n int) *big.Rat {
	exp := big.NewInt(int64(n))
	return new(big.Rat).SetFrac(new(big.Int).Exp(big.NewInt(unit), exp, nil), new(big.Int).Exp(big.NewInt(int64(unit+b.Rate)), exp, nil))
}
