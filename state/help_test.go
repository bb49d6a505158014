package state_test

import (
	"fmt"
	"math"
	"math/big"
	"math/rand"
	"slices"
	"strings"
	"testing"

	"tontine/api"
)

const (
	unit    = api.Unit
	longest = api.MaxYears
	most    = api.MaxStates
)

// interests are rates of interest at both ends of their range, and between.
var interests = []int{0, 1, 250000, api.MaxRate - 7, api.MaxRate}

// far are numbers far beyond each range.
var far = []int{math.MinInt, math.MinInt + 1, -1000, 1000, math.MaxInt - 1, math.MaxInt}

// sample is the chapter's chain (well, ill, dead), of so many years.
func sample(n int) api.Chain {
	return chainOf(3, n, func(_, i int) []int {
		return [][]int{{8000000, 1000000, 1000000}, {5000000, 3000000, 2000000}, {0, 0, unit}}[i]
	})
}

// chainOf is a chain whose rows are told by their years and states.
func chainOf(states, n int, row func(y, i int) []int) api.Chain {
	c := api.Chain{States: states}
	for y := range n {
		var rows [][]int
		for i := range states {
			rows = append(rows, row(y, i))
		}
		c.Steps = append(c.Steps, rows)
	}
	return c
}

// stays is the chain in which nobody moves.
func stays(states, n int) api.Chain {
	return chainOf(states, n, func(_, i int) []int { return only(states, i, unit) })
}

// only is a list with one number at a place, and noughts.
func only(length, place, x int) []int {
	l := make([]int, length)
	l[place] = x
	return l
}

// anyRow is chances that sum to one: now and then one is certain, and many are none.
func anyRow(r *rand.Rand, states int) []int {
	row := make([]int, states)
	left := unit
	for _, j := range r.Perm(states)[1:] {
		switch r.Intn(6) {
		case 0:
		case 1:
			row[j] = left
		case 2:
			row[j] = min(left, 1)
		default:
			row[j] = r.Intn(left/2 + 1)
		}
		left -= row[j]
	}
	row[r.Intn(states)] += left
	return row
}

func anyChain(r *rand.Rand, states, n int) api.Chain {
	return chainOf(states, n, func(int, int) []int { return anyRow(r, states) })
}

// anyAmount is an amount of either sign, now and then none, or an end of the range.
func anyAmount(r *rand.Rand) int {
	switch r.Intn(5) {
	case 0:
		return 0
	case 1:
		return []int{-api.MaxMoney, api.MaxMoney, -1, 1}[r.Intn(4)]
	case 2:
		return r.Intn(2*api.MaxMoney+1) - api.MaxMoney
	}
	return r.Intn(200001) - 100000
}

// staysOf is payments of a chain that are told by their years and states.
func staysOf(c api.Chain, stay func(y, i int) int, move func(y, i, j int) int) api.Stays {
	p := api.Stays{}
	for y := range c.Steps {
		at := make([]int, c.States)
		var rows [][]int
		for i := range at {
			at[i] = stay(y, i)
			row := make([]int, c.States)
			for j := range row {
				row[j] = move(y, i, j)
			}
			rows = append(rows, row)
		}
		p.Stay, p.Move = append(p.Stay, at), append(p.Move, rows)
	}
	return p
}

func anyStays(r *rand.Rand, c api.Chain) api.Stays {
	return staysOf(c, func(int, int) int { return anyAmount(r) }, func(int, int, int) int { return anyAmount(r) })
}

// ones is payments of one in a state, at the beginnings of so many years.
func ones(c api.Chain, state, years int) api.Stays {
	return staysOf(c, func(y, i int) int {
		if i == state && y < years {
			return 1
		}
		return 0
	}, func(int, int, int) int { return 0 })
}

func noStays(c api.Chain) api.Stays { return ones(c, 0, 0) }

// look is what is done with a chain; what tells of it.
type look func(what string, c api.Chain)

// eachChain goes over right chains of a few years, of each number of states.
func eachChain(do look) {
	r := random(16)
	list := []api.Chain{
		sample(1), sample(2), sample(4), stays(1, 1), stays(1, 3), stays(4, 2),
		chainOf(2, 5, func(_, i int) []int { return only(2, 1-i, unit) }),
		chainOf(3, 5, func(y, i int) []int { return only(3, (i+y)%3, unit) }),
		chainOf(2, 4, func(y, i int) []int { return [][]int{{1, unit - 1}, {unit - 1, 1}}[(y+i)%2] }),
		chainOf(most, 2, func(_, i int) []int { return slices.Repeat([]int{unit / most}, most) }),
	}
	for states := 1; states <= most; states++ {
		list = append(list, anyChain(r, states, 1), anyChain(r, states, 2), anyChain(r, states, 3+r.Intn(4)))
	}
	for _, c := range list {
		do(whatOf(c), c)
	}
}

// eachLongChain goes over chains of as many years as there may be, or nearly.
func eachLongChain(do look) {
	r := random(1616)
	for _, c := range []api.Chain{
		sample(longest), stays(3, longest), anyChain(r, most, longest), anyChain(r, 1, longest), anyChain(r, 2, longest-1), anyChain(r, 5, longest),
		chainOf(2, longest, func(_, i int) []int { return [][]int{{1, unit - 1}, {0, unit}}[i] }),
		chainOf(3, longest, func(_, i int) []int { return [][]int{{9999999, 0, 1}, {3, 9999990, 7}, {1, 1, 9999998}}[i] }),
	} {
		do(whatOf(c), c)
	}
}

func whatOf(c api.Chain) string {
	if len(c.Steps)*c.States*c.States < 60 {
		return fmt.Sprint(c)
	}
	return fmt.Sprintf("%d states, %d years, the first one's rows %v", c.States, len(c.Steps), c.Steps[0])
}

// timesOf are both ends of a chain's times, and some between.
func timesOf(c api.Chain) []int {
	n := len(c.Steps)
	l := []int{0, 1, n / 2, n - 1, n}
	slices.Sort(l)
	return slices.Compact(l)
}

// eachTimes goes over pairs of a chain's times, of which the first is not behind the second.
func eachTimes(c api.Chain, do func(from, to int)) {
	for _, from := range timesOf(c) {
		for _, to := range timesOf(c) {
			if from <= to {
				do(from, to)
			}
		}
	}
}

// rowsOf is the chances of one who is in a state at one time to be in each state, at each time up to another one: the years' rows multiplied out, over powers of Unit.
func rowsOf(c api.Chain, start, from, to int) [][]*big.Rat {
	row := make([]*big.Int, c.States)
	for i := range row {
		row[i] = big.NewInt(int64(only(c.States, start, 1)[i]))
	}
	var all [][]*big.Rat
	for at := from; ; at++ {
		var chances []*big.Rat
		for _, x := range row {
			chances = append(chances, new(big.Rat).SetFrac(x, pow(unit, at-from)))
		}
		all = append(all, chances)
		if at == to {
			return all
		}
		next := make([]*big.Int, c.States)
		for j := range next {
			next[j] = new(big.Int)
			for i := range row {
				next[j].Add(next[j], new(big.Int).Mul(row[i], big.NewInt(int64(c.Steps[at][i][j]))))
			}
		}
		row = next
	}
}

// moveOf is the chances to come from each state to each one.
func moveOf(c api.Chain, from, to int) [][]*big.Rat {
	var rows [][]*big.Rat
	for start := range c.States {
		rows = append(rows, rowsOf(c, start, from, to)[to-from])
	}
	return rows
}

// valuesOf is what payments are worth, as the Words have it: whole numbers, at the time t by (Unit times Unit + rate) to the years that are left.
func valuesOf(c api.Chain, rate int, p api.Stays) [][]*big.Rat {
	n := len(c.Steps)
	all := make([][]*big.Rat, n+1)
	later := make([]*big.Int, c.States)
	for i := range later {
		later[i] = new(big.Int)
		all[n] = append(all[n], new(big.Rat))
	}
	laterBy := big.NewInt(1)
	for t := n - 1; t >= 0; t-- {
		by := new(big.Int).Mul(laterBy, big.NewInt(unit*int64(unit+rate)))
		now := make([]*big.Int, c.States)
		for i := range now {
			s := new(big.Int)
			for j := range now {
				end := new(big.Int).Mul(big.NewInt(int64(p.Move[t][i][j])), laterBy)
				end.Add(end, later[j])
				s.Add(s, end.Mul(end, big.NewInt(int64(c.Steps[t][i][j]))))
			}
			now[i] = new(big.Int).Mul(big.NewInt(int64(p.Stay[t][i])), by)
			now[i].Add(now[i], s.Mul(s, big.NewInt(unit)))
			all[t] = append(all[t], new(big.Rat).SetFrac(now[i], by))
		}
		later, laterBy = now, by
	}
	return all
}

// levelOf is the level premium as the chapter has it, by the chances to be in a state.
func levelOf(c api.Chain, rate int, p api.Stays, state, years int) *big.Rat {
	sum := new(big.Rat)
	for t, row := range rowsOf(c, state, 0, years-1) {
		v := new(big.Rat).SetFrac(pow(unit, t), pow(int64(unit+rate), t))
		sum = plus(sum, times(v, row[state]))
	}
	return new(big.Rat).Quo(valuesOf(c, rate, p)[0][state], sum)
}

func pow(x int64, n int) *big.Int { return new(big.Int).Exp(big.NewInt(x), big.NewInt(int64(n)), nil) }

func random(seed int64) *rand.Rand { return rand.New(rand.NewSource(seed)) }

func want(t *testing.T, what, got, want string) {
	t.Helper()
	if got != want {
		t.Errorf("%s: %s, want %s", short(what), short(got), short(want))
	}
}

// short is a text that may be very long, so that it can be told.
func short(s string) string {
	if len(s) <= 400 {
		return s
	}
	return fmt.Sprintf("%s..%s (%d bytes)", s[:190], s[len(s)-190:], len(s))
}

// told is what a call answered, or its error; what stands beside an error must be nothing (R5).
func told(answer string, e api.Errno, isNothing bool) string {
	switch {
	case e == api.OK:
		return answer
	case !isNothing:
		return "something beside " + e.Error()
	}
	return e.Error()
}

func refused(e api.Errno) string { return e.Error() }

func tellRatio(r api.Ratio, e api.Errno) string {
	return told(r.Num+"/"+r.Den, e, r == api.Ratio{})
}

func tellRatios(l []api.Ratio, e api.Errno) string { return told(tellList(l), e, len(l) == 0) }

func tellList(l []api.Ratio) string {
	var texts []string
	for _, r := range l {
		texts = append(texts, tellRatio(r, api.OK))
	}
	return strings.Join(texts, " ")
}

// tellRows tells lists of anything, each by tell.
func tellRows[T any](rows [][]T, e api.Errno, tell func(l []T) string) string {
	var texts []string
	for _, l := range rows {
		texts = append(texts, tell(l))
	}
	return told(strings.Join(texts, "; "), e, len(rows) == 0)
}

func tellRatioRows(rows [][]api.Ratio, e api.Errno) string { return tellRows(rows, e, tellList) }

// tellFloats tells floats bit by bit (R8).
func tellFloats(l []float64) string {
	var texts []string
	for _, x := range l {
		texts = append(texts, fmt.Sprintf("%x", math.Float64bits(x)))
	}
	return strings.Join(texts, " ")
}

func tellFloatRows(rows [][]float64, e api.Errno) string { return tellRows(rows, e, tellFloats) }

// tellSpanRows tells spans by their ends, bit by bit.
func tellSpanRows(rows [][]api.Span, e api.Errno) string {
	return tellRows(rows, e, func(l []api.Span) string {
		var ends []float64
		for _, s := range l {
			ends = append(ends, s.Lo, s.Hi)
		}
		return tellFloats(ends)
	})
}

func tellChain(c api.Chain, e api.Errno) string {
	return told(fmt.Sprint(c), e, c.States == 0 && len(c.Steps) == 0)
}

// wantedAll is how a list of exact numbers must be told.
func wantedAll(l []*big.Rat) string {
	var texts []string
	for _, x := range l {
		texts = append(texts, x.String())
	}
	return strings.Join(texts, " ")
}

// wantedRows is how lists of exact numbers must be told.
func wantedRows(rows [][]*big.Rat) string { return tellRows(rows, api.OK, wantedAll) }

// number is what a call that is right answered.
func number(t *testing.T, r api.Ratio, e api.Errno) *big.Rat {
	t.Helper()
	x, ok := new(big.Rat).SetString(r.Num + "/" + r.Den)
	if e != api.OK || !ok {
		t.Fatal("no number:", r, e)
	}
	return x
}

// numbers is what a call that is right answered.
func numbers(t *testing.T, l []api.Ratio, e api.Errno) []*big.Rat {
	t.Helper()
	if e != api.OK {
		t.Fatal("no numbers:", e)
	}
	var all []*big.Rat
	for _, r := range l {
		all = append(all, number(t, r, e))
	}
	return all
}

// numberRows is what a call that is right answered.
func numberRows(t *testing.T, rows [][]api.Ratio, e api.Errno) [][]*big.Rat {
	t.Helper()
	if e != api.OK {
		t.Fatal("no numbers:", e)
	}
	var all [][]*big.Rat
	for _, l := range rows {
		all = append(all, numbers(t, l, e))
	}
	return all
}

func sumOf(l []*big.Rat) *big.Rat {
	sum := new(big.Rat)
	for _, x := range l {
		sum.Add(sum, x)
	}
	return sum
}

func rat(p, q int64) *big.Rat { return big.NewRat(p, q) }

func plus(x, y *big.Rat) *big.Rat { return new(big.Rat).Add(x, y) }

func minus(x, y *big.Rat) *big.Rat { return new(big.Rat).Sub(x, y) }

func times(x, y *big.Rat) *big.Rat { return new(big.Rat).Mul(x, y) }
