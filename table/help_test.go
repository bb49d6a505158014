package table_test

import (
	"fmt"
	"math"
	"math/big"
	"math/rand"
	"strconv"
	"strings"
	"testing"

	"tontine/api"
)

const (
	unit    = api.Unit
	oldest  = api.MaxAge
	longest = api.MaxYears
)

// noYears are no years, from 0 to MaxYears.
var noYears = []int{-1, -2, longest + 1, 2 * longest, math.MinInt, math.MaxInt}

// noUnits are ints that are not from 0 to Unit.
var noUnits = []int{-1, unit + 1, -unit, 2 * unit, math.MinInt, math.MaxInt}

var hows = []int{api.DieEvenly, api.DieLast}

// noHows are ways of dying that are none.
var noHows = []int{0, -1, 3, math.MinInt, math.MaxInt}

// ages is the chapter's example.
func ages() api.Table {
	return api.Table{Name: "t", First: 60, Rates: []int{1000000, 2000000, 5000000, unit}}
}

// chosen is the chapter's example with Select.
func chosen() api.Table {
	t := ages()
	t.Select = [][]int{{500000, 1000000, 2500000, unit}}
	return t
}

// broken is a table that is not right, by ErrForm, ErrAge and ErrRates all at once.
func broken() api.Table { return api.Table{Name: "T", First: -1, Rates: []int{-1}} }

// copied is a table that shares nothing with t.
func copied(t api.Table) api.Table {
	c := api.Table{Name: strings.Clone(t.Name), First: t.First, Rates: append([]int(nil), t.Rates...)}
	for _, l := range t.Select {
		c.Select = append(c.Select, append([]int(nil), l...))
	}
	return c
}

// changed is a copy of t to which something was done.
func changed(t api.Table, change func(t *api.Table)) api.Table {
	c := copied(t)
	change(&c)
	return c
}

// tableOf is a table of so many rates from an age on, and of so many of Select's members, all told by their places; the last ones are Unit.
func tableOf(first, count, members int, rate func(d, k int) int) api.Table {
	list := func(d, length int) []int {
		l := make([]int, length)
		for k := range l {
			l[k] = rate(d, k)
		}
		l[length-1] = unit
		return l
	}
	t := api.Table{Name: "made_9", First: first, Rates: list(members, count)}
	for d := range members {
		t.Select = append(t.Select, list(d, count-d))
	}
	return t
}

// anyRate is a rate below Unit, often an end of the range.
func anyRate(r *rand.Rand) int {
	switch r.Intn(5) {
	case 0:
		return []int{0, 1, unit / 2, unit - 1}[r.Intn(4)]
	case 1:
		return r.Intn(unit)
	}
	return r.Intn(unit / 20)
}

// anyTable is a table of any size.
func anyTable(r *rand.Rand) api.Table {
	first := r.Intn(oldest + 1)
	count := 1 + r.Intn(oldest+1-first)
	if r.Intn(2) == 0 {
		count = 1 + r.Intn(min(count, 12))
	}
	members := r.Intn(min(count, api.MaxSelect) + 1)
	return tableOf(first, count, members, func(int, int) int { return anyRate(r) })
}

// tables are right tables: of one age, of all ages, with no Select, with as many members as there may be, and as there are Rates; with rates at the ends of their range.
func tables() []api.Table {
	r := random(9)
	some := func(int, int) int { return anyRate(r) }
	always := func(rate int) func(d, k int) int { return func(int, int) int { return rate } }
	l := []api.Table{
		ages(), chosen(),
		tableOf(0, 1, 0, some), tableOf(oldest, 1, 0, some), tableOf(oldest, 1, 1, some), tableOf(77, 1, 1, some),
		tableOf(0, oldest+1, 0, some), tableOf(0, oldest+1, api.MaxSelect, some), tableOf(1, oldest, 3, some),
		tableOf(20, 4, 4, some), tableOf(20, api.MaxSelect, api.MaxSelect, some), tableOf(20, api.MaxSelect+1, api.MaxSelect, some),
		tableOf(0, oldest+1, 2, always(0)), tableOf(0, oldest+1, 2, always(unit-1)), tableOf(0, oldest+1, 0, always(1)),
		tableOf(30, 9, 0, always(unit/2)),
	}
	for range 12 {
		l = append(l, anyTable(r))
	}
	return l
}

// livesOf are lives of a table: of a short one all, of a long one those at both ends and some between.
func livesOf(t api.Table) []api.Life {
	var l []api.Life
	count := len(t.Rates)
	for k := range count {
		for years := range count - k {
			edge := years <= 1 || k+years == count-1 || years == len(t.Select) || years == len(t.Select)-1
			if count <= 12 || (k == 0 || k == count-1) && edge || (7*k+11*years)%499 == 0 {
				l = append(l, api.Life{Entry: t.First + k, Years: years})
			}
		}
	}
	return l
}

// noLives are lives that are not of a table.
func noLives(t api.Table) []api.Life {
	end := t.First + len(t.Rates) - 1
	return []api.Life{
		{Entry: t.First - 1}, {Entry: end + 1}, {Entry: t.First, Years: -1}, {Entry: end, Years: 1}, {Entry: t.First, Years: len(t.Rates)},
		{Entry: t.First - 1, Years: 1}, {Entry: end + 1, Years: -1}, {Entry: math.MinInt}, {Entry: math.MaxInt}, {Entry: math.MaxInt, Years: math.MaxInt},
		{Entry: math.MinInt, Years: math.MinInt}, {Entry: t.First, Years: math.MaxInt}, {Entry: end, Years: math.MaxInt - 3}, {Entry: end, Years: math.MinInt},
	}
}

// rateIn is a life's rate in n years, by the Words; -1, if there is none.
func rateIn(t api.Table, l api.Life, n int) int {
	switch {
	case l.Entry+l.Years+n > t.First+len(t.Rates)-1:
		return -1
	case l.Years+n < len(t.Select):
		return t.Select[l.Years+n][l.Entry-t.First]
	}
	return t.Rates[l.Entry+l.Years+n-t.First]
}

// survival tells S(n), by the Words.
func survival(t api.Table, l api.Life) func(n int) *big.Rat {
	chances := []*big.Rat{whole(1)}
	for n := 0; rateIn(t, l, n) >= 0; n++ {
		chances = append(chances, times(chances[n], minus(whole(1), part(rateIn(t, l, n)))))
	}
	return func(n int) *big.Rat {
		if n < len(chances) {
			return chances[n]
		}
		return new(big.Rat)
	}
}

func whole(n int) *big.Rat { return new(big.Rat).SetInt64(int64(n)) }

// part is a rate by Unit.
func part(rate int) *big.Rat { return big.NewRat(int64(rate), unit) }

func plus(x, y *big.Rat) *big.Rat { return new(big.Rat).Add(x, y) }

func minus(x, y *big.Rat) *big.Rat { return new(big.Rat).Sub(x, y) }

func times(x, y *big.Rat) *big.Rat { return new(big.Rat).Mul(x, y) }

func by(x, y *big.Rat) *big.Rat { return new(big.Rat).Quo(x, y) }

// halfEven is x, which is not below nought, rounded half to even.
func halfEven(x *big.Rat) int {
	low, rest := new(big.Int).DivMod(x.Num(), x.Denom(), new(big.Int))
	side := rest.Lsh(rest, 1).Cmp(x.Denom())
	if side > 0 || side == 0 && low.Bit(0) == 1 {
		return int(low.Int64()) + 1
	}
	return int(low.Int64())
}

func toBig(t *testing.T, r api.Ratio) *big.Rat {
	t.Helper()
	x, ok := new(big.Rat).SetString(r.Num + "/" + r.Den)
	if !ok {
		t.Fatalf("no exact number: %v", r)
	}
	return x
}

// of is an exact number from its text.
func of(text string) api.Ratio {
	num, den, found := strings.Cut(text, "/")
	if !found {
		den = "1"
	}
	return api.Ratio{Num: num, Den: den}
}

func random(seed int64) *rand.Rand { return rand.New(rand.NewSource(seed)) }

func want(t *testing.T, what, got, want string) {
	t.Helper()
	if got != want {
		t.Errorf("%s: %s, want %s", short(what), short(got), short(want))
	}
}

// short is a text that may be very long, so that it can be told.
func short(s string) string {
	if len(s) <= 400 {
		return s
	}
	return fmt.Sprintf("%s..%s (%d bytes)", s[:190], s[len(s)-190:], len(s))
}

// told is what a call answered, or its error; what stands beside an error must be nothing (R5).
func told(answer string, e api.Errno, isNothing bool) string {
	switch {
	case e == api.OK:
		return answer
	case !isNothing:
		return "something beside " + e.Error()
	}
	return e.Error()
}

func tell(r api.Ratio, e api.Errno) string { return told(r.Num+"/"+r.Den, e, r == api.Ratio{}) }

func tellInt(n int, e api.Errno) string { return told(strconv.Itoa(n), e, n == 0) }

// tellFloats tells floats bit by bit (R8).
func tellFloats(l []float64, e api.Errno) string {
	texts := make([]string, len(l))
	for i, x := range l {
		texts[i] = strconv.FormatUint(math.Float64bits(x), 16)
	}
	return told(strings.Join(texts, " "), e, len(l) == 0)
}

func tellSpans(l []api.Span, e api.Errno) string {
	ends := make([]float64, 0, 2*len(l))
	for _, s := range l {
		ends = append(ends, s.Lo, s.Hi)
	}
	return tellFloats(ends, e)
}

func isNothing(t api.Table) bool {
	return t.Name == "" && t.First == 0 && len(t.Rates) == 0 && len(t.Select) == 0
}

// tellTable tells an empty list as none (R3).
func tellTable(t api.Table, e api.Errno) string {
	return told(fmt.Sprint(t.Name, " ", t.First, t.Rates, t.Select), e, isNothing(t))
}

func tellText(s string, e api.Errno) string { return told(s, e, s == "") }

func tellParsed(t api.Table, f api.Fault) string {
	if f.Code == api.OK && f.At != 0 {
		return "a place of nothing"
	}
	return tellTable(t, f.Code) + " at " + strconv.Itoa(f.At)
}

func refused(e api.Errno) string { return e.Error() }

func fault(at int, e api.Errno) string { return e.Error() + " at " + strconv.Itoa(at) }
