package trial_test

import (
	"fmt"
	"math"
	"math/big"
	"math/rand"
	"strings"
	"testing"

	"tontine/api"
)

const (
	cells   = 256        // how many a list may have
	exposed = 1000000000 // how many a cell may have
)

// cell is a cell by its parts.
func cell(exposed, deaths, rate int) api.Cell {
	return api.Cell{Exposed: exposed, Deaths: deaths, Rate: rate}
}

// list is cells.
func list(l ...api.Cell) []api.Cell { return l }

// The deviations of these are 1, -1 and 0.
var (
	up   = cell(10, 2, 1000000)
	down = cell(10, 0, 1000000)
	even = cell(10, 1, 1000000)
)

// signed is cells whose deviations have the signs of a text of +, - and 0.
func signed(signs string) []api.Cell {
	var l []api.Cell
	for _, s := range signs {
		switch s {
		case '+':
			l = append(l, up)
		case '-':
			l = append(l, down)
		case '0':
			l = append(l, even)
		}
	}
	return l
}

// noCells are cells that are not right: each has one part just beyond an end, or far beyond.
func noCells() []api.Cell {
	return list(
		cell(-1, 0, 0), cell(-1, -1, 0), cell(-1, -2, 0), cell(exposed+1, 0, 0), cell(exposed+1, exposed+1, api.Unit), cell(math.MinInt, 0, 0), cell(math.MinInt, math.MinInt, 0), cell(math.MaxInt, 0, 0), cell(math.MaxInt, math.MaxInt, 0),
		cell(0, -1, 0), cell(0, 1, 0), cell(7, -1, 5), cell(7, 8, 5), cell(exposed, exposed+1, 5), cell(exposed, -1, 5), cell(7, math.MinInt, 5), cell(7, math.MaxInt, 5),
		cell(7, 3, -1), cell(7, 3, api.Unit+1), cell(0, 0, -1), cell(0, 0, api.Unit+1), cell(7, 3, math.MinInt), cell(7, 3, math.MaxInt),
	)
}

// noParts are exact numbers that are no part, with their errors.
func noParts() map[api.Ratio]api.Errno {
	long := strings.Repeat("7", api.MaxDigits+1)
	return map[api.Ratio]api.Errno{
		{}: api.ErrShape, of("2/4"): api.ErrShape, of("0/2"): api.ErrShape, of("1/0"): api.ErrShape, of("1/-2"): api.ErrShape, of("-0"): api.ErrShape, of("+1"): api.ErrShape, of("x"): api.ErrShape, of("01/2"): api.ErrShape, {Num: "1"}: api.ErrShape, of("-4/2"): api.ErrShape, of("6/4"): api.ErrShape,
		of(long): api.ErrLong, of("-" + long): api.ErrLong, of("1/" + long): api.ErrLong, of(long + "/" + long): api.ErrLong, of(long + "/x"): api.ErrShape,
		of("-1"): api.ErrRange, of("2"): api.ErrRange, of("-1/3"): api.ErrRange, of("4/3"): api.ErrRange, of("-1/" + nines(api.MaxDigits)): api.ErrRange, of(nines(api.MaxDigits) + "/" + nines(api.MaxDigits-1) + "8"): api.ErrRange,
	}
}

// of is an exact number from its text, as it stands: it may be a wrong one.
func of(text string) api.Ratio {
	num, den, found := strings.Cut(text, "/")
	if !found {
		den = "1"
	}
	return api.Ratio{Num: num, Den: den}
}

// nines is 10 to the n, less 1.
func nines(n int) string { return strings.Repeat("9", n) }

// repeated is a value so many times.
func repeated[T any](x T, count int) []T {
	l := make([]T, count)
	for i := range l {
		l[i] = x
	}
	return l
}

// with is a copy of l with another value at a place.
func with[T any](l []T, at int, x T) []T {
	c := append([]T(nil), l...)
	c[at] = x
	return c
}

func random(seed int64) *rand.Rand { return rand.New(rand.NewSource(seed)) }

// anyCell is a right one: often with an end of a range, or just as many deaths as were expected.
func anyCell(r *rand.Rand) api.Cell {
	most := []int{0, 1, 10, 1000, exposed}[r.Intn(5)]
	c := api.Cell{Exposed: most, Rate: []int{0, 1, api.Unit / 10, api.Unit / 2, api.Unit - 1, api.Unit}[r.Intn(6)]}
	if r.Intn(2) == 0 {
		c.Exposed = r.Intn(most + 1)
	}
	if r.Intn(2) == 0 {
		c.Rate = r.Intn(api.Unit + 1)
	}
	switch r.Intn(4) {
	case 0:
		c.Deaths = r.Intn(c.Exposed + 1)
	case 1:
		c.Deaths = []int{0, c.Exposed}[r.Intn(2)]
	default: // near to what was expected
		c.Deaths = min(max(c.Exposed*c.Rate/api.Unit+r.Intn(4)-1, 0), c.Exposed)
	}
	return c
}

// anyCells is so many of them.
func anyCells(r *rand.Rand, count int) []api.Cell {
	l := make([]api.Cell, count)
	for i := range l {
		l[i] = anyCell(r)
	}
	return l
}

// possible is l without the cells that could not be.
func possible(l []api.Cell) []api.Cell {
	var kept []api.Cell
	for _, c := range l {
		if spread(c).Sign() != 0 || deviation(c).Sign() == 0 {
			kept = append(kept, c)
		}
	}
	return kept
}

func whole(n int) *big.Rat { return new(big.Rat).SetInt64(int64(n)) }

func plus(x, y *big.Rat) *big.Rat { return new(big.Rat).Add(x, y) }

func minus(x, y *big.Rat) *big.Rat { return new(big.Rat).Sub(x, y) }

func times(x, y *big.Rat) *big.Rat { return new(big.Rat).Mul(x, y) }

func by(x, y *big.Rat) *big.Rat { return new(big.Rat).Quo(x, y) }

// rate is q of the Words.
func rate(c api.Cell) *big.Rat { return big.NewRat(int64(c.Rate), api.Unit) }

// expected, spread and deviation are a cell's, by the Words.
func expected(c api.Cell) *big.Rat { return times(whole(c.Exposed), rate(c)) }

func spread(c api.Cell) *big.Rat { return times(expected(c), minus(whole(1), rate(c))) }

func deviation(c api.Cell) *big.Rat { return minus(whole(c.Deaths), expected(c)) }

// sum is that of what is told of each cell.
func sum(l []api.Cell, tell func(c api.Cell) *big.Rat) *big.Rat {
	all := new(big.Rat)
	for _, c := range l {
		all.Add(all, tell(c))
	}
	return all
}

func deaths(l []api.Cell) int {
	all := 0
	for _, c := range l {
		all += c.Deaths
	}
	return all
}

// choose is the ways of k among n, by the Words.
func choose(n, k int) *big.Int {
	if k < 0 || k > n {
		return new(big.Int)
	}
	return new(big.Int).Binomial(int64(n), int64(k))
}

// tail is the binomial chance of at most k of n, by the Words.
func tail(n int, p *big.Rat, k int) *big.Rat {
	all, q := new(big.Rat), minus(whole(1), p)
	for j := 0; j <= min(k, n); j++ {
		all.Add(all, times(new(big.Rat).SetInt(choose(n, j)), times(power(p, j), power(q, n-j))))
	}
	return all
}

// power is x to the n, with 0 to the 0 being 1.
func power(x *big.Rat, n int) *big.Rat {
	e := big.NewInt(int64(n))
	return new(big.Rat).SetFrac(new(big.Int).Exp(x.Num(), e, nil), new(big.Int).Exp(x.Denom(), e, nil))
}

func fromBig(x *big.Rat) api.Ratio {
	return api.Ratio{Num: x.Num().String(), Den: x.Denom().String()}
}

// most is how many digits x has, above or below.
func most(x *big.Rat) int {
	r := fromBig(x)
	return max(len(strings.TrimPrefix(r.Num, "-")), len(r.Den))
}

// exactly is what a call should tell that comes to these: ErrLong, if one is too long (R2).
func exactly(l ...*big.Rat) string {
	texts := make([]string, len(l))
	for i, x := range l {
		if most(x) > api.MaxDigits {
			return refused(api.ErrLong)
		}
		texts[i] = x.String()
	}
	return strings.Join(texts, " ")
}

func want(t *testing.T, what, got, want string) {
	t.Helper()
	if got != want {
		t.Errorf("%s: %s, want %s", short(what), short(got), short(want))
	}
}

// short is a text that may be very long, so that it can be told.
func short(s string) string {
	if len(s) <= 400 {
		return s
	}
	return fmt.Sprintf("%s..%s (%d bytes)", s[:190], s[len(s)-190:], len(s))
}

// told is what a call answered, or its error; what stands beside an error must be nothing (R5).
func told(answer string, e api.Errno, isNothing bool) string {
	switch {
	case e == api.OK:
		return answer
	case !isNothing:
		return "something beside " + e.Error()
	}
	return e.Error()
}

func refused(e api.Errno) string { return e.Error() }

// text is an exact number, by its parts.
func text(r api.Ratio) string { return r.Num + "/" + r.Den }

func tell(r api.Ratio, e api.Errno) string { return told(text(r), e, r == api.Ratio{}) }

func tellTwo(a, b api.Ratio, e api.Errno) string {
	return told(text(a)+" "+text(b), e, a == api.Ratio{} && b == api.Ratio{})
}

func tellCounted(r api.Ratio, n int, e api.Errno) string {
	return told(fmt.Sprint(text(r), " of ", n), e, r == api.Ratio{} && n == 0)
}

func tellRuns(n int, r api.Ratio, e api.Errno) string {
	return told(fmt.Sprint(n, " ", text(r)), e, r == api.Ratio{} && n == 0)
}

func tellSigns(plus, minus, none int, e api.Errno) string {
	return told(fmt.Sprint(plus, minus, none), e, plus == 0 && minus == 0 && none == 0)
}

func tellInt(n int, e api.Errno) string { return told(fmt.Sprint(n), e, n == 0) }

func tellText(s string, e api.Errno) string { return told(s, e, s == "") }

func tellErrno(e api.Errno) string {
	if e == api.OK {
		return "right"
	}
	return refused(e)
}

// tellLists tells empty lists as none (R3).
func tellLists(a, b []api.Ratio, e api.Errno) string {
	return told(texts(a)+"; "+texts(b), e, len(a) == 0 && len(b) == 0)
}

func texts(l []api.Ratio) string {
	texts := make([]string, len(l))
	for i, r := range l {
		texts[i] = text(r)
	}
	return strings.Join(texts, " ")
}

// tellGroups tells a group as From to To, Deaths, Expected and Spread; an empty list as none (R3).
func tellGroups(l []api.Group, e api.Errno) string {
	texts := make([]string, len(l))
	for i, g := range l {
		texts[i] = fmt.Sprint(g.From, " to ", g.To, ": ", g.Deaths, " ", text(g.Expected), " ", text(g.Spread))
	}
	return told(strings.Join(texts, "; "), e, len(l) == 0)
}
