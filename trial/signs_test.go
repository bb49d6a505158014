package trial_test

import (
	"fmt"
	"math/big"
	"math/rand"
	"strings"
	"testing"

	"tontine/api"
	"tontine/trial"
)

// signsOf is the deviations' signs, as a text of +, - and 0.
func signsOf(l []api.Cell) string {
	signs := ""
	for _, c := range l {
		signs += "-0+"[deviation(c).Sign()+1:][:1]
	}
	return signs
}

// runs is how many runs of pluses there are in a text of +, - and 0.
func runs(signs string) int {
	return len(strings.FieldsFunc(strings.ReplaceAll(signs, "0", ""), func(r rune) bool { return r == '-' }))
}

// stevens is the chance of at most g runs, by 11.4.
func stevens(a, b, g int) *big.Rat {
	if a == 0 {
		return whole(1)
	}
	all := new(big.Int)
	for j := 1; j <= g; j++ {
		all.Add(all, new(big.Int).Mul(choose(a-1, j-1), choose(b+1, j)))
	}
	return new(big.Rat).SetFrac(all, choose(a+b, a))
}

// ran is what Runs should tell of such signs.
func ran(signs string) string {
	a, b, g := strings.Count(signs, "+"), strings.Count(signs, "-"), runs(signs)
	return fmt.Sprint(g, " ", stevens(a, b, g))
}

// doubled is what SignTest should tell of such signs.
func doubled(signs string) string {
	a, b := strings.Count(signs, "+"), strings.Count(signs, "-")
	twice := times(whole(2), tail(a+b, big.NewRat(1, 2), min(a, b)))
	if twice.Cmp(whole(1)) > 0 {
		return "1/1"
	}
	return twice.String()
}

// checkSigns holds all calls that look at signs against what they should tell.
func checkSigns(t *testing.T, l []api.Cell, signs string) {
	t.Helper()
	want(t, "Signs of "+signs, tellSigns(trial.Signs(l)), fmt.Sprint(strings.Count(signs, "+"), strings.Count(signs, "-"), strings.Count(signs, "0")))
	want(t, "Runs of "+signs, tellRuns(trial.Runs(l)), ran(signs))
	want(t, "SignTest of "+signs, tell(trial.SignTest(l)), doubled(signs))
}

// 11.4, 11.7: of any cells.
func TestSigns(t *testing.T) {
	lists(114, 800, func(r *rand.Rand, l []api.Cell) { checkSigns(t, l, signsOf(l)) })
}

// orders calls f with all texts of so many of the signs.
func orders(signs string, count int, f func(text string)) {
	if count == 0 {
		f("")
		return
	}
	for _, s := range signs {
		orders(signs, count-1, func(text string) { f(string(s) + text) })
	}
}

// 11.4, 11.7: all orders of a few signs, with none between them too.
func TestSignsInAllOrders(t *testing.T) {
	for n := range 8 {
		orders("+-0", n, func(signs string) { checkSigns(t, signed(signs), signs) })
	}
	for n := 8; n <= 10; n++ {
		orders("+-", n, func(signs string) { checkSigns(t, signed(signs), signs) })
	}
}

// 11.4: the chance is what part of all orders has at most so many runs, if these are counted one by one.
func TestRunsAreCounted(t *testing.T) {
	for n := 1; n <= 10; n++ {
		counts := map[[2]int]int{} // by how many pluses, and by how many runs
		orders("+-", n, func(signs string) { counts[[2]int{strings.Count(signs, "+"), runs(signs)}]++ })
		orders("+-", n, func(signs string) {
			a, few, all := strings.Count(signs, "+"), 0, 0
			for g := range n + 1 {
				all += counts[[2]int{a, g}]
				if g <= runs(signs) {
					few += counts[[2]int{a, g}]
				}
			}
			want(t, "Runs of "+signs, tellRuns(trial.Runs(signed(signs))), fmt.Sprint(runs(signs), " ", big.NewRat(int64(few), int64(all))))
		})
	}
}

// 11.4, 11.7: all plus, all minus, all none, and as many runs as there can be, up to full lists.
func TestSignsAtEdges(t *testing.T) {
	for _, n := range []int{0, 1, 2, 3, 100, cells - 1, cells} {
		for _, s := range []string{"+", "-", "0"} {
			signs := strings.Repeat(s, n)
			checkSigns(t, signed(signs), signs)
		}
		for _, s := range []string{"+-", "-+", "0+", "0-", "+0-", "++-", "-+0"} {
			signs := strings.Repeat(s, n)[:n]
			checkSigns(t, signed(signs), signs)
		}
		signs := strings.Repeat("+", n/2) + strings.Repeat("-", n-n/2)
		checkSigns(t, signed(signs), signs)
	}
	for _, c := range []struct{ signs, signsOf, runs, test string }{
		{"", "0 0 0", "0 1/1", "1/1"}, {"0", "0 0 1", "0 1/1", "1/1"}, {"-", "0 1 0", "0 1/1", "1/1"}, {"+", "1 0 0", "1 1/1", "1/1"}, {"--", "0 2 0", "0 1/1", "1/2"}, {"+++", "3 0 0", "1 1/1", "1/4"},
		{"+0+", "2 0 1", "1 1/1", "1/2"}, {"+-+", "2 1 0", "2 1/1", "1/1"}, {"++-", "2 1 0", "1 2/3", "1/1"}, {"+0-0+", "2 1 2", "2 1/1", "1/1"}, {"0+00+-0", "2 1 4", "1 2/3", "1/1"}, {"+-", "1 1 0", "1 1/1", "1/1"}, {"+++++---", "5 3 0", "1 1/14", "93/128"},
	} {
		l := signed(c.signs)
		want(t, "Signs of "+c.signs, tellSigns(trial.Signs(l)), c.signsOf)
		want(t, "Runs of "+c.signs, tellRuns(trial.Runs(l)), c.runs)
		want(t, "SignTest of "+c.signs, tell(trial.SignTest(l)), c.test)
	}
}

// 11.4: a deviation is told by its sign, however small it is, or great.
func TestSignsOfSmallDeviations(t *testing.T) {
	for _, c := range []struct {
		cell api.Cell
		sign string
	}{
		{cell(1, 0, 1), "0 1 0"}, {cell(1, 1, api.Unit-1), "1 0 0"}, {cell(1, 0, 0), "0 0 1"}, {cell(1, 1, 0), "1 0 0"}, {cell(1, 0, api.Unit), "0 1 0"}, {cell(1, 1, api.Unit), "0 0 1"}, {cell(0, 0, 5), "0 0 1"},
		{cell(exposed, 100, 1), "0 0 1"}, {cell(exposed-1, 100, 1), "1 0 0"}, {cell(exposed-1, 99, 1), "0 1 0"}, {cell(exposed, 0, api.Unit), "0 1 0"}, {cell(exposed, exposed, 0), "1 0 0"}, {cell(exposed-1, exposed-101, api.Unit-1), "0 1 0"}, {cell(exposed-1, exposed-100, api.Unit-1), "1 0 0"},
	} {
		want(t, fmt.Sprint("Signs of ", c.cell), tellSigns(trial.Signs(list(c.cell))), c.sign)
	}
}
