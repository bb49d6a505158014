package smooth_test

import (
	"fmt"
	"math"
	"math/big"
	"testing"

	"tontine/api"
	"tontine/smooth"
)

const richest = api.MaxMoney

// 10.1: died by exposed, in lowest terms; 0, where nobody was exposed.
func TestCrude(t *testing.T) {
	for _, c := range []struct {
		died, exposed []int
		wanted        string
	}{
		{nil, nil, ""}, {ints(), nil, ""}, {nil, ints(), ""},
		{ints(0), ints(0), "0/1"}, {ints(0), ints(1), "0/1"}, {ints(1), ints(1), "1/1"}, {ints(7), ints(7), "1/1"}, {ints(6), ints(8), "3/4"}, {ints(0), ints(richest), "0/1"}, {ints(richest), ints(richest), "1/1"}, {ints(1), ints(richest), "1/1000000000000000"}, {ints(richest - 1), ints(richest), "999999999999999/1000000000000000"}, {ints(5000), ints(richest), "1/200000000000"},
		{ints(0, 1, 0, 3), ints(0, 2, 5, 9), "0/1 1/2 0/1 1/3"},
	} {
		want(t, fmt.Sprint("Crude ", c.died, c.exposed), tellList(smooth.Crude(c.died, c.exposed)), c.wanted)
	}
	r := random(101)
	for range 50 {
		n := r.Intn(points + 1)
		died, exposed, wanted := make([]int, n), make([]int, n), make([]*big.Rat, n)
		for i := range n {
			exposed[i] = 1 + r.Intn([]int{richest, 100000, 10}[r.Intn(3)])
			died[i] = r.Intn(exposed[i] + 1)
			wanted[i] = by(whole(died[i]), whole(exposed[i]))
		}
		want(t, fmt.Sprint("Crude of ", n), tellList(smooth.Crude(died, exposed)), listed(wanted...))
	}
}

// 10.1: what is out of its range, wherever it stands.
func TestCrudeOutOfRange(t *testing.T) {
	for _, c := range [][2]int{{1, 0}, {2, 1}, {8, 7}, {-1, 0}, {-1, 5}, {-1, -1}, {0, -1}, {-2, -1}, {0, richest + 1}, {richest + 1, richest + 1}, {richest + 1, richest}, {1, math.MaxInt}, {math.MaxInt, math.MaxInt}, {math.MinInt, 0}, {math.MinInt, math.MinInt}, {0, math.MinInt}, {math.MaxInt, 0}} {
		want(t, fmt.Sprint("Crude ", c), tellList(smooth.Crude(ints(c[0]), ints(c[1]))), refused(api.ErrRange))
		for _, at := range []int{0, 64, points - 1} {
			died, exposed := with(repeated(1, points), at, c[0]), with(repeated(2, points), at, c[1])
			want(t, fmt.Sprint("Crude of ", c, " at ", at), tellList(smooth.Crude(died, exposed)), refused(api.ErrRange))
		}
	}
}

// 10.1: lists too long, ahead of unlike lengths, ahead of what is out of its range.
func TestCrudeLengths(t *testing.T) {
	for _, n := range []int{0, 1, -1} {
		for _, c := range []struct {
			died, exposed int
			e             api.Errno
		}{
			{points + 1, points + 1, api.ErrLong}, {points + 1, points, api.ErrLong}, {points, points + 1, api.ErrLong}, {points + 1, 0, api.ErrLong}, {0, points + 1, api.ErrLong}, {api.MaxItems + 1, 1, api.ErrLong}, {1, api.MaxItems + 1, api.ErrLong},
			{points, points - 1, api.ErrPairs}, {points - 1, points, api.ErrPairs}, {0, 1, api.ErrPairs}, {1, 0, api.ErrPairs},
		} {
			want(t, fmt.Sprint("Crude of ", c.died, " and ", c.exposed), tellList(smooth.Crude(repeated(n, c.died), repeated(n, c.exposed))), refused(c.e))
		}
	}
	if l, e := smooth.Crude(repeated(1, points), repeated(2, points)); e != api.OK || len(l) != points {
		t.Errorf("Crude of MaxPoints: %d, %v", len(l), e)
	}
}

// 10.1: the differences, as the Words have them; of order 0 the numbers themselves; none, where there are not more numbers than the order.
func TestDifferences(t *testing.T) {
	for _, c := range []struct {
		l      string
		order  int
		wanted string
	}{
		{"", 0, ""}, {"", 1, ""}, {"", 4, ""}, {"7/3", 0, "7/3"}, {"7/3", 1, ""}, {"7/3", 4, ""}, {"1 4", 1, "3/1"}, {"1 4", 2, ""}, {"1/2 1/3", 1, "-1/6"}, {"5 5 5", 1, "0/1 0/1"},
		{"1 8 27 64", 3, "6/1"}, {"1 8 27 64", 4, ""}, {"1 8 27 64 125", 4, "0/1"}, {"1 16 81 256 625", 4, "24/1"}, {"0 0 1 0 0", 4, "6/1"}, {"1 0 0 0 0", 4, "1/1"}, {"0 1 0 0 0", 4, "-4/1"}, {"0 0 0 1 0", 4, "-4/1"}, {"0 0 0 0 1", 4, "1/1"}, {"1 0 0 0", 3, "-1/1"}, {"0 1 0 0", 3, "3/1"},
	} {
		want(t, fmt.Sprint("Differences ", c.l, " of order ", c.order), tellList(smooth.Differences(list(c.l), c.order)), c.wanted)
	}
	r := random(102)
	for range 60 {
		l := anyNumbers(r, r.Intn(points+1), 1+r.Intn(12))
		for order := 0; order <= api.MaxOrder; order++ {
			want(t, fmt.Sprint("Differences of order ", order), tellList(smooth.Differences(fromBigs(l), order)), listed(differences(l, order)...))
		}
	}
}

// 10.1, R1: lists too long, then numbers that are not right, then orders out of their range.
func TestDifferencesWrong(t *testing.T) {
	for _, order := range []int{0, 1, api.MaxOrder, -1, api.MaxOrder + 1, math.MinInt, math.MaxInt} {
		want(t, "Differences of too many", tellList(smooth.Differences(repeated(of("1"), points+1), order)), refused(api.ErrLong))
		want(t, "Differences of too many wrong ones", tellList(smooth.Differences(repeated(of("x"), points+1), order)), refused(api.ErrLong))
		for wrong, e := range noNumbers() {
			want(t, fmt.Sprint("Differences of ", wrong), tellList(smooth.Differences([]api.Ratio{wrong}, order)), refused(e))
			want(t, fmt.Sprint("Differences of ", wrong, " at the end"), tellList(smooth.Differences(append(list("1 2 3 4 5"), wrong), order)), refused(e))
			for other, e := range noNumbers() {
				want(t, "Differences of two wrong ones", tellList(smooth.Differences([]api.Ratio{of("1"), other, wrong}, order)), refused(e))
			}
		}
		if order < 0 || order > api.MaxOrder {
			for _, n := range []int{0, 1, points} {
				want(t, fmt.Sprint("Differences of order ", order), tellList(smooth.Differences(repeated(of("1"), n), order)), refused(api.ErrOrder))
			}
		}
	}
	if l, e := smooth.Differences(repeated(of("1/3"), points), api.MaxOrder); e != api.OK || len(l) != points-api.MaxOrder {
		t.Errorf("Differences of MaxPoints: %d, %v", len(l), e)
	}
}

// 10.1, R2: differences of just MaxDigits digits, above and below, and of one more; what is long on the way alone.
func TestDifferencesLong(t *testing.T) {
	half := api.MaxDigits / 2
	for _, c := range []struct {
		what, l string
		order   int
		wanted  string
	}{
		{"most digits", "-" + nines(api.MaxDigits-1) + " 9" + tenTo(api.MaxDigits - 1)[1:], 1, nines(api.MaxDigits) + "/1"},
		{"one more", "-" + tenTo(api.MaxDigits-1) + " 9" + tenTo(api.MaxDigits - 1)[1:], 1, refused(api.ErrLong)},
		{"one more below nought", tenTo(api.MaxDigits-1) + " -9" + tenTo(api.MaxDigits - 1)[1:], 1, refused(api.ErrLong)},
		{"most digits below", "1/" + tenTo(half) + " 1/" + nines(half), 1, "1/" + nines(half) + tenTo(half)[1:]},
		{"one more below", "1/" + tenTo(half+1) + " 1/" + nines(half), 1, refused(api.ErrLong)},
		{"long, and 0", nines(api.MaxDigits) + " " + nines(api.MaxDigits), 1, "0/1"},
		{"long, and 0 of order 2", "-" + nines(api.MaxDigits) + " 0 " + nines(api.MaxDigits), 2, "0/1"},
		{"of order 0", nines(api.MaxDigits) + " -1/" + nines(api.MaxDigits), 0, nines(api.MaxDigits) + "/1 -1/" + nines(api.MaxDigits)},
		{"the last one too long", "0 0 0 -" + tenTo(api.MaxDigits-1) + " 9" + tenTo(api.MaxDigits - 1)[1:], 1, refused(api.ErrLong)},
		{"long dens", "1/" + nines(api.MaxDigits) + " 1/" + tenTo(api.MaxDigits-1), 1, refused(api.ErrLong)},
	} {
		want(t, "Differences, "+c.what, tellList(smooth.Differences(list(c.l), c.order)), c.wanted)
		want(t, "differences by another way, "+c.what, listed(differences(toBigs(list(c.l)), c.order)...), c.wanted)
	}
}
