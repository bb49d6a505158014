package trial_test

import (
	"fmt"
	"math"
	"strings"
	"testing"

	"tontine/api"
	"tontine/trial"
)

// R4: what is handed in stays as it is, spare room too; R7: the same call tells the same, whatever the capacity.
func TestArgumentsStay(t *testing.T) {
	r := random(4)
	for _, n := range []int{0, 1, 5, cells, cells + 1} {
		l := anyCells(r, n)
		for _, l := range [][]api.Cell{l, possible(l), append(noCells(), l...)} {
			room := append(append([]api.Cell(nil), l...), up, down, noCells()[0])
			was := fmt.Sprint(room)
			for name, call := range cellCalls() {
				want(t, name+" of a list with room", call(room[:len(l)]), call(l))
				want(t, "what was handed to "+name, fmt.Sprint(room), was)
			}
		}
	}
}

// R3: lists without a member may be nil or empty.
func TestNoneIsNone(t *testing.T) {
	for name, call := range cellCalls() {
		want(t, name, call([]api.Cell{}), call(nil))
	}
}

// R4: an answer is its caller's own, spare room too: it shares nothing with another answer, and the two lists of one answer share nothing.
func TestAnswersAreNewMemory(t *testing.T) {
	l := anyCells(random(5), 40)
	expected, spreads, e := trial.Expected(l)
	wanted := tellLists(expected, spreads, e)
	first, second, _ := trial.Expected(l)
	spare := first[:cap(first)]
	clear(spare)
	want(t, "Expected's second list", texts(second), texts(spreads))
	clear(second[:cap(second)])
	want(t, "Expected beside another answer", tellLists(expected, spreads, e), wanted)
	want(t, "Expected once more", tellLists(trial.Expected(l)), wanted)
	for _, least := range []int{0, 1, exposed} {
		groups, e := trial.Groups(l, least)
		wanted := tellGroups(groups, e)
		other, _ := trial.Groups(l, least)
		clear(other[:cap(other)])
		want(t, "Groups beside another answer", tellGroups(groups, e), wanted)
		want(t, "Groups once more", tellGroups(trial.Groups(l, least)), wanted)
	}
}

// numberCalls are all calls that are given numbers alone.
func numberCalls() map[string]func(n, rate, k int) string {
	return map[string]func(n, rate, k int) string{
		"Ways":     func(n, rate, k int) string { return tellText(trial.Ways(n, k)) },
		"Binomial": func(n, rate, k int) string { return tell(trial.Binomial(n, rate, k)) },
		"Quantile": func(n, rate, k int) string {
			return tellInt(trial.Quantile(n, rate, api.Ratio{Num: fmt.Sprint(k), Den: fmt.Sprint(n)}))
		},
	}
}

// P1: no call panics, and each ends, whatever it is given; R5: what is beside an error is nothing; R7: the same call tells the same.
func TestNoCallPanics(t *testing.T) {
	check := func(name string, call func() string) {
		t.Helper()
		first := call()
		want(t, name+" twice", call(), first)
		if strings.Contains(first, "beside") {
			t.Errorf("%s: %s", name, short(first))
		}
	}
	numbers := []int{0, 1, -1, 2, 64, trials, trials + 1, 5000000, api.Unit, api.Unit + 1, exposed, exposed + 1, math.MaxInt, math.MinInt}
	for _, x := range numbers {
		for _, y := range numbers {
			for _, z := range numbers {
				for name, call := range numberCalls() {
					check(name, func() string { return call(x, y, z) })
				}
				for name, call := range cellCalls() {
					check(name, func() string { return call(list(up, cell(x, y, z), down)) })
				}
				check("Groups", func() string { return tellGroups(trial.Groups(list(cell(x, y, z), up), y)) })
			}
		}
	}
}

// P1: the longest calls end.
func TestLongCallsEnd(t *testing.T) {
	for _, rate := range []int{1, 3333333, api.Unit - 1} {
		want(t, "Binomial", tell(trial.Binomial(trials, rate, trials-1)), refused(api.ErrLong))
		want(t, "Quantile", tellErrno(second(trial.Quantile(trials, rate, of(nines(api.MaxDigits-1)+"8/"+nines(api.MaxDigits))))), "right")
	}
	r := random(6)
	l := make([]api.Cell, cells)
	for i := range l {
		l[i] = wide(r, false)
	}
	for name, call := range cellCalls() {
		if call(l) == refused(api.ErrCells) {
			t.Error(name, "refuses right cells")
		}
	}
}

func second(_ int, e api.Errno) api.Errno { return e }
