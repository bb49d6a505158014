package column_test

import (
	"fmt"
	"strings"
	"testing"

	"tontine/api"
	"tontine/column"
)

// 12.1: each line of the exact columns, up to m and behind it.
func TestExact(t *testing.T) {
	eachLife(func(what string, b api.Basis, l api.Life) {
		all := exactColumns(b, l)
		m := len(all["D"]) - 1
		for n := range m + 3 {
			want(t, fmt.Sprint("Exact(", n, ") of ", what), tellColumn(column.Exact(b, l, n)), lineOf(all, n))
		}
		want(t, "Exact(130) of "+what, tellColumn(column.Exact(b, l, longest)), lineOf(all, longest))
	})
	eachLong(func(what string, b api.Basis, l api.Life) {
		all := exactColumns(b, l)
		m := len(all["D"]) - 1
		for _, n := range []int{0, 1, m / 2, m - 2, m - 1, m, m + 1, longest} {
			if n >= 0 && n <= longest {
				want(t, fmt.Sprint("Exact(", n, ") of ", what), tellColumn(column.Exact(b, l, n)), lineOf(all, n))
			}
		}
	})
}

// 12.1: behind m all are 0, and so they are at m; of a table of all ages the last line that may be asked for is the last but one.
func TestNoughts(t *testing.T) {
	noughts := "D 0/1; N 0/1; S 0/1; C 0/1; M 0/1; R 0/1"
	b, l := sample()
	for _, n := range []int{4, 5, 6, longest - 1, longest} {
		want(t, fmt.Sprint("Exact(", n, ")"), tellColumn(column.Exact(b, l, n)), noughts)
	}
	full := api.Basis{Table: tableOf(0, oldest+1, 0, always(0))}
	want(t, "Exact(130) of all ages", tellColumn(column.Exact(full, api.Life{}, longest)), "D 1/1; N 1/1; S 1/1; C 1/1; M 1/1; R 1/1")
	want(t, "Exact(130) of all ages but one", tellColumn(column.Exact(full, api.Life{Years: 1}, longest)), noughts)
	want(t, "Exact(0) of all ages", tellColumn(column.Exact(full, api.Life{}, 0)), "D 1/1; N 131/1; S 8646/1; C 0/1; M 1/1; R 131/1")
}

// 12.1: at no interest, of one who dies at once, and one who dies for sure in a year.
func TestExactEnds(t *testing.T) {
	sure := api.Table{Name: "t", First: 7, Rates: []int{unit}}
	want(t, "Exact(0)", tellColumn(column.Exact(api.Basis{Table: sure}, api.Life{Entry: 7}, 0)), "D 1/1; N 1/1; S 1/1; C 1/1; M 1/1; R 1/1")
	want(t, "Exact(0)", tellColumn(column.Exact(api.Basis{Table: sure, Rate: api.MaxRate}, api.Life{Entry: 7}, 0)), "D 1/1; N 1/1; S 1/1; C 1/11; M 1/11; R 1/11")
	select1 := api.Table{Name: "t", Rates: []int{5000000, unit}, Select: [][]int{{0, unit}}}
	want(t, "Exact(0) of a select life", tellColumn(column.Exact(api.Basis{Table: select1}, api.Life{}, 0)), "D 1/1; N 2/1; S 3/1; C 0/1; M 1/1; R 2/1")
	want(t, "Exact(0) a year later", tellColumn(column.Exact(api.Basis{Table: select1}, api.Life{Years: 1}, 0)), "D 1/1; N 1/1; S 1/1; C 1/1; M 1/1; R 1/1")
	want(t, "Exact(1)", tellColumn(column.Exact(api.Basis{Table: select1, Rate: unit}, api.Life{}, 1)), "D 1/2; N 1/2; S 1/2; C 1/4; M 1/4; R 1/4")
}

// R2: no line has more digits than may be answered, since all can be written by (Unit + Rate) to the m, which has at most 9 m digits; the longest ones are answered.
func TestLongestLines(t *testing.T) {
	longestYet := 0
	for _, rate := range []int{api.MaxRate, api.MaxRate - 1, api.MaxRate - 11, api.MaxRate - 13} {
		for _, k := range []int{1, 3, unit / 3, unit - 1} {
			b := api.Basis{Table: tableOf(0, oldest+1, 0, always(k)), Rate: rate}
			for _, n := range []int{0, 1, longest - 1, longest} {
				x, e := column.Exact(b, api.Life{}, n)
				if e != api.OK {
					t.Fatal(rate, k, n, e)
				}
				for _, r := range ratiosOf(x) {
					longestYet = max(longestYet, len(r.Num), len(r.Den))
				}
			}
		}
	}
	if longestYet < 1050 || longestYet > 9*(oldest+1) || longestYet > api.MaxDigits {
		t.Error("the longest line has", longestYet, "digits")
	}
}

// 12.1: a place that is none, behind all that is wrong with the basis and the life.
func TestNoPlace(t *testing.T) {
	b, l := sample()
	for _, n := range noYears {
		want(t, fmt.Sprint("Exact(", n, ")"), tellColumn(column.Exact(b, l, n)), refused(api.ErrRange))
		want(t, fmt.Sprint("Exact(", n, ") of no life"), tellColumn(column.Exact(b, api.Life{Entry: 64}, n)), refused(api.ErrAge))
	}
	full := api.Basis{Table: tableOf(0, oldest+1, 0, always(5))}
	want(t, "Exact(m) of all ages", tellColumn(column.Exact(full, api.Life{}, longest+1)), refused(api.ErrRange))
	for _, n := range []int{0, longest} {
		if got := tellColumn(column.Exact(b, l, n)); !strings.HasPrefix(got, "D ") {
			t.Error("Exact", n, got)
		}
	}
}
