package trial_test

import (
	"fmt"
	"math/big"
	"math/rand"
	"testing"

	"tontine/api"
	"tontine/trial"
)

// lists calls f with lists of cells of many lengths, among them those that are just full.
func lists(seed int64, count int, f func(r *rand.Rand, l []api.Cell)) {
	r := random(seed)
	for i := range count {
		n := i % 9
		if i%40 == 39 {
			n = cells - r.Intn(2)
		}
		f(r, anyCells(r, n))
	}
}

// each is what is told of each cell.
func each(l []api.Cell, tell func(c api.Cell) *big.Rat) []api.Ratio {
	told := make([]api.Ratio, len(l))
	for i, c := range l {
		told[i] = fromBig(tell(c))
	}
	return told
}

// 11.1: what was expected of each cell, and its spread.
func TestExpected(t *testing.T) {
	lists(111, 400, func(r *rand.Rand, l []api.Cell) {
		want(t, fmt.Sprint("Expected ", l), tellLists(trial.Expected(l)), tellLists(each(l, expected), each(l, spread), api.OK))
	})
	for _, c := range []struct {
		cell   api.Cell
		wanted string
	}{
		{cell(0, 0, 5), "0/1; 0/1"}, {cell(7, 0, 0), "0/1; 0/1"}, {cell(7, 2, api.Unit), "7/1; 0/1"}, {cell(1, 0, 1), "1/10000000; 9999999/100000000000000"}, {cell(4, 4, 5000000), "2/1; 1/1"},
		{cell(exposed, 0, api.Unit), "1000000000/1; 0/1"}, {cell(exposed, 0, 5000000), "500000000/1; 250000000/1"}, {cell(exposed, 1, 9999999), "999999900/1; 9999999/100000"},
	} {
		want(t, fmt.Sprint("Expected ", c.cell), tellLists(trial.Expected(list(c.cell))), c.wanted)
	}
	want(t, "Expected of none", tellLists(trial.Expected(nil)), "; ")
}

// squares is what Square should tell.
func squares(l []api.Cell) string {
	all, count, never := new(big.Rat), 0, false
	for _, c := range l {
		switch {
		case spread(c).Sign() != 0:
			all.Add(all, by(times(deviation(c), deviation(c)), spread(c)))
			count++
		case deviation(c).Sign() != 0:
			never = true
		}
	}
	switch told := exactly(all); {
	case never:
		return refused(api.ErrNever)
	case told == refused(api.ErrLong):
		return told
	default:
		return fmt.Sprint(told, " of ", count)
	}
}

// 11.2: the sum of squares of any cells, and what could not be.
func TestSquare(t *testing.T) {
	could, could2 := 0, 0
	lists(112, 600, func(r *rand.Rand, l []api.Cell) {
		for _, l := range [][]api.Cell{l, possible(l)} {
			wanted := squares(l)
			want(t, fmt.Sprint("Square ", l), tellCounted(trial.Square(l)), wanted)
			if wanted == refused(api.ErrNever) {
				could++
			} else if len(l) > 0 {
				could2++
			}
		}
	})
	if could < 50 || could2 < 50 {
		t.Error("only", could, "lists that could not be, and", could2, "that could")
	}
}

// 11.2: cells without spread: nobody was exposed, or the rate is an end of its range; of these some could not be, beside others too.
func TestSquareWithoutSpread(t *testing.T) {
	still := list(cell(0, 0, 0), cell(0, 0, 5), cell(0, 0, api.Unit), cell(10, 0, 0), cell(10, 10, api.Unit), cell(exposed, 0, 0), cell(exposed, exposed, api.Unit))
	never := list(cell(10, 1, 0), cell(10, 10, 0), cell(10, 9, api.Unit), cell(10, 0, api.Unit), cell(1, 1, 0), cell(1, 0, api.Unit), cell(exposed, 1, 0), cell(exposed, exposed-1, api.Unit))
	want(t, "Square of none", tellCounted(trial.Square(nil)), "0/1 of 0")
	want(t, "Square without spread", tellCounted(trial.Square(still)), "0/1 of 0")
	want(t, "Square of one with spread", tellCounted(trial.Square(append(still[:len(still):len(still)], up))), "10/9 of 1")
	want(t, "Square of one without deviation", tellCounted(trial.Square(append(still[:len(still):len(still)], even))), "0/1 of 1")
	for _, c := range never {
		want(t, fmt.Sprint("Square ", c), tellCounted(trial.Square(list(c))), refused(api.ErrNever))
		for _, other := range append(still, up, down, even) {
			for _, at := range []int{0, 5, cells - 1} {
				want(t, fmt.Sprint("Square ", c, " beside ", other), tellCounted(trial.Square(with(repeated(other, cells), at, c))), refused(api.ErrNever))
			}
		}
	}
}

// prime is one that is not below n.
func prime(n int) int {
	for !big.NewInt(int64(n)).ProbablyPrime(0) {
		n++
	}
	return n
}

// narrow is a cell whose square has a denominator of a few digits, a prime; wide one of some twenty, which has little in common with others; near: with a deviation below 1.
func narrow(r *rand.Rand, near bool) api.Cell {
	least := 10
	for range r.Intn(8) {
		least *= 10
	}
	return dying(r, cell(prime(least+r.Intn(5*least)), 0, api.Unit/2), near)
}

func wide(r *rand.Rand, near bool) api.Cell {
	return dying(r, cell(prime(exposed/2+r.Intn(exposed/3)), 0, prime(1+r.Intn(api.Unit-1000))), near)
}

// dying is a cell with any number of deaths but all, or near to what was expected.
func dying(r *rand.Rand, c api.Cell, near bool) api.Cell {
	c.Deaths = c.Exposed * c.Rate / api.Unit
	if !near {
		c.Deaths = 1 + r.Intn(c.Exposed-1)
	}
	return c
}

func squareOf(c api.Cell) *big.Rat { return by(times(deviation(c), deviation(c)), spread(c)) }

// reaching is cells whose squares sum to a number of just so many digits, above or below.
func reaching(t *testing.T, r *rand.Rand, digits int, near bool) ([]api.Cell, *big.Rat) {
	var l []api.Cell
	all := new(big.Rat)
	for range 20 * cells {
		c := wide(r, near)
		if most(all) > digits-40 {
			c = narrow(r, near)
		}
		switch next := plus(all, squareOf(c)); {
		case most(next) == digits:
			return append(l, c), next
		case most(next) < digits-1 && len(l) < cells-2: // two digits more there always may be
			l, all = append(l, c), next
		}
	}
	t.Fatal("no cells reach ", digits, " digits, but ", most(all))
	return nil, nil
}

// 11.2, R2: sums of just MaxDigits digits, and of one more, above and below; and what could not be is told ahead of that.
func TestSquareLong(t *testing.T) {
	r := random(1120)
	for _, near := range []bool{false, true} {
		for range 3 {
			l, all := reaching(t, r, api.MaxDigits, near)
			want(t, "just as many digits", tellCounted(trial.Square(l)), fmt.Sprint(all.String(), " of ", len(l)))
			l, all = reaching(t, r, api.MaxDigits+1, near)
			want(t, "the digits of one more", fmt.Sprint(most(all)), fmt.Sprint(api.MaxDigits+1))
			want(t, "one more", tellCounted(trial.Square(l)), refused(api.ErrLong))
			want(t, "one more, and what could not be", tellCounted(trial.Square(append(l, cell(10, 1, 0)))), refused(api.ErrNever))
		}
	}
	full := make([]api.Cell, cells)
	for i := range full {
		full[i] = wide(r, i%2 == 0)
	}
	want(t, "a full list", tellCounted(trial.Square(full)), refused(api.ErrLong))
}

// totals is what Total should tell.
func totals(l []api.Cell) string {
	all, spreads := sum(l, deviation), sum(l, spread)
	switch {
	case spreads.Sign() != 0:
		return exactly(all, by(times(all, all), spreads))
	case all.Sign() != 0:
		return refused(api.ErrNever)
	}
	return "0/1 0/1"
}

// 11.5: the sum of all deviations, and its square by the sum of all spreads.
func TestTotal(t *testing.T) {
	lists(115, 600, func(r *rand.Rand, l []api.Cell) {
		want(t, fmt.Sprint("Total ", l), tellTwo(trial.Total(l)), totals(l))
		l = possible(l)
		want(t, fmt.Sprint("Total ", l), tellTwo(trial.Total(l)), totals(l))
	})
	for _, c := range []struct {
		l      []api.Cell
		wanted string
	}{
		{nil, "0/1 0/1"}, {signed("0"), "0/1 0/1"}, {signed("+-"), "0/1 0/1"}, {signed("-"), "-1/1 10/9"}, {signed("--0"), "-2/1 40/27"}, {list(cell(3, 1, 1)), "9999997/10000000 99999940000009/29999997"},
		{list(cell(10, 0, 0)), "0/1 0/1"}, {list(cell(10, 10, api.Unit), cell(0, 0, 5)), "0/1 0/1"}, {list(cell(10, 1, 0)), refused(api.ErrNever)}, {list(cell(10, 9, api.Unit)), refused(api.ErrNever)},
		{list(cell(10, 1, 0), cell(10, 9, api.Unit)), "0/1 0/1"}, {list(cell(10, 2, 0), cell(10, 9, api.Unit)), refused(api.ErrNever)}, {list(cell(10, 1, 0), up), "2/1 40/9"}, {list(cell(10, 1, 0), down), "0/1 0/1"},
		{repeated(cell(exposed, exposed, 0), cells), refused(api.ErrNever)}, {append(repeated(cell(exposed, exposed, 0), cells-1), cell(exposed, exposed, 5000000)), "255500000000/1 261121000000000/1"},
		{append(repeated(cell(exposed, 0, api.Unit), cells-1), cell(exposed, 0, 5000000)), "-255500000000/1 261121000000000/1"},
	} {
		want(t, fmt.Sprint("Total ", c.l), tellTwo(trial.Total(c.l)), c.wanted)
		want(t, fmt.Sprint("Total by another way ", c.l), totals(c.l), c.wanted)
	}
}

// distance is what Distance should tell.
func distance(l []api.Cell) string {
	died, meant := whole(deaths(l)), sum(l, expected)
	if died.Sign() == 0 || meant.Sign() == 0 {
		return refused(api.ErrZero)
	}
	far := new(big.Rat)
	for i := range l {
		apart := minus(by(whole(deaths(l[:i+1])), died), by(sum(l[:i+1], expected), meant))
		if apart.Abs(apart).Cmp(far) > 0 {
			far = apart
		}
	}
	return exactly(far)
}

// 11.5: the greatest distance of the parts up to a place.
func TestDistance(t *testing.T) {
	zero := 0
	lists(1151, 600, func(r *rand.Rand, l []api.Cell) {
		wanted := distance(l)
		want(t, fmt.Sprint("Distance ", l), tell(trial.Distance(l)), wanted)
		if wanted == refused(api.ErrZero) {
			zero++
		}
	})
	if zero < 20 || zero > 400 {
		t.Error(zero, "lists without deaths, or with none expected")
	}
	for _, c := range []struct {
		l      []api.Cell
		wanted string
	}{
		{nil, refused(api.ErrZero)}, {signed("-"), refused(api.ErrZero)}, {signed("---"), refused(api.ErrZero)}, {list(cell(0, 0, 5)), refused(api.ErrZero)}, {list(cell(10, 3, 0)), refused(api.ErrZero)}, {list(cell(10, 3, 0), cell(0, 0, api.Unit)), refused(api.ErrZero)},
		{signed("+"), "0/1"}, {signed("0000"), "0/1"}, {signed("+-"), "1/2"}, {signed("-+"), "1/2"}, {signed("--0+"), "1/2"}, {signed("+--+"), "1/4"}, {list(cell(10, 3, 0), cell(10, 0, 1)), "1/1"}, {list(cell(10, 0, 1), cell(10, 3, 0)), "1/1"}, {list(cell(10, 0, 1), cell(10, 3, 1), cell(5, 0, 0)), "1/2"},
		{append(repeated(cell(exposed, exposed, 0), cells/2), repeated(cell(exposed, 0, api.Unit), cells/2)...), "1/1"},
	} {
		want(t, fmt.Sprint("Distance ", c.l), tell(trial.Distance(c.l)), c.wanted)
		want(t, fmt.Sprint("Distance by another way ", c.l), distance(c.l), c.wanted)
	}
	l := append(repeated(cell(exposed, exposed, api.Unit-1), cells-1), cell(exposed, exposed-1, api.Unit)) // of the greatest sums
	want(t, "Distance of many", tell(trial.Distance(l)), distance(l))
}
