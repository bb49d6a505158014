package smooth_test

import (
	"fmt"
	"math"
	"math/big"
	"strings"
	"testing"

	"tontine/api"
	"tontine/smooth"
	"tontine/table"
)

// spencer is l by Spencer's points, by the Words.
func spencer(l []*big.Rat) []*big.Rat {
	c := []int{74, 67, 46, 21, 3, -5, -6, -3}
	smoothed := append([]*big.Rat(nil), l...)
	for i := 7; i <= len(l)-8; i++ {
		sum := new(big.Rat)
		for k := -7; k <= 7; k++ {
			sum.Add(sum, times(whole(c[max(k, -k)]), l[i+k]))
		}
		smoothed[i] = by(sum, whole(320))
	}
	return smoothed
}

// 10.4: Spencer's points, of lists of all lengths; those of fewer than 15 members stay.
func TestSpencer(t *testing.T) {
	r := random(108)
	for n := range points + 1 {
		l := anyNumbers(r, n, 1+n%9)
		got := tellList(smooth.Spencer(fromBigs(l)))
		want(t, fmt.Sprint("Spencer of ", n), got, listed(spencer(l)...))
		if n < 15 {
			want(t, fmt.Sprint("Spencer of ", n), got, listed(l...))
		}
	}
	for k, wanted := range []string{"-3/320", "-3/160", "-1/64", "3/320", "21/320", "23/160", "67/320", "37/160", "67/320", "23/160", "21/320", "3/320", "-1/64", "-3/160", "-3/320"} {
		one := with(repeated(of("0"), 15), k, of("1"))
		l, e := smooth.Spencer(one)
		if e != api.OK || len(l) != 15 {
			t.Fatal(len(l), e)
		}
		want(t, fmt.Sprint("Spencer of 1 at ", k), tell(l[7], e), wanted)
		l[7] = one[7]
		want(t, "all others", tellList(l, e), tellList(one, e))
		sixteen := append(append([]api.Ratio{}, one...), of("0"))
		l, e = smooth.Spencer(sixteen)
		want(t, "the first of 16", tell(l[7], e), wanted)
		l, e = smooth.Spencer(append([]api.Ratio{of("0")}, one...))
		want(t, "the second of 16", tell(l[8], e), wanted)
	}
}

// 10.8: polynomials of degree 3 stay.
func TestSpencerKeepsCubics(t *testing.T) {
	r := random(1080)
	for _, n := range []int{15, 16, 17, 40, points} {
		for degree := 0; degree <= 3; degree++ {
			l := polynomial(anyNumbers(r, degree+1, 9), n)
			want(t, fmt.Sprint("Spencer of a polynomial of degree ", degree), tellList(smooth.Spencer(fromBigs(l))), listed(l...))
		}
	}
	fourth := polynomial([]*big.Rat{whole(0), whole(0), whole(0), whole(0), whole(1)}, 15)
	want(t, "Spencer of a polynomial of degree 4", fmt.Sprint(tellList(smooth.Spencer(fromBigs(fourth))) == listed(fourth...)), "false")
}

// polynomial is the numbers of a polynomial at 0, 1, 2 and so on.
func polynomial(factors []*big.Rat, count int) []*big.Rat {
	l := make([]*big.Rat, count)
	for i := range l {
		l[i] = new(big.Rat)
		for k := range factors {
			l[i] = plus(times(l[i], whole(i)), factors[len(factors)-1-k])
		}
	}
	return l
}

// 10.4, R1: lists too long, and numbers that are not right, also those that stay.
func TestSpencerWrong(t *testing.T) {
	want(t, "Spencer of too many", tellList(smooth.Spencer(repeated(of("1"), points+1))), refused(api.ErrLong))
	want(t, "Spencer of too many wrong ones", tellList(smooth.Spencer(repeated(of("x"), points+1))), refused(api.ErrLong))
	want(t, "Spencer of none", tellList(smooth.Spencer(nil)), "")
	for wrong, e := range noNumbers() {
		for _, n := range []int{1, 14, 15, points} {
			for _, at := range []int{0, n / 2, n - 1} {
				want(t, fmt.Sprint("Spencer with ", wrong), tellList(smooth.Spencer(with(repeated(of("1"), n), at, wrong))), refused(e))
			}
		}
		for other, e := range noNumbers() {
			want(t, "Spencer of two wrong ones", tellList(smooth.Spencer([]api.Ratio{other, wrong})), refused(e))
		}
	}
}

// 10.4, R2: numbers of just MaxDigits digits, and of one more; long ones that stay, or are long on the way alone.
func TestSpencerLong(t *testing.T) {
	at := func(k int, text string) []api.Ratio { return with(repeated(of("0"), 15), k, of(text)) }
	one := func(l []api.Ratio, e api.Errno) string {
		if e != api.OK {
			return tellList(l, e)
		}
		return tell(l[7], e)
	}
	want(t, "most digits below", one(smooth.Spencer(at(7, "1/"+tenTo(api.MaxDigits-3)))), "37/16"+tenTo(api.MaxDigits - 2)[1:])
	want(t, "one more below", one(smooth.Spencer(at(7, "1/"+tenTo(api.MaxDigits-2)))), refused(api.ErrLong))
	odd := func(n int) string { return tenTo(n - 1)[:n-1] + "1" }
	want(t, "most digits above", one(smooth.Spencer(at(6, odd(api.MaxDigits-1)))), "67"+tenTo(api.MaxDigits - 4)[1:]+"67/320")
	want(t, "one more above", one(smooth.Spencer(at(6, odd(api.MaxDigits)))), refused(api.ErrLong))
	long := repeated(of("-"+nines(api.MaxDigits)+"/"+tenTo(api.MaxDigits-1)), points)
	want(t, "long, and all the same", tellList(smooth.Spencer(long)), tellList(long, api.OK))
	mixed := list("1/" + nines(api.MaxDigits) + " 0 0 0 0 0 0 0 0 0 0 0 0 0 1/" + tenTo(api.MaxDigits-1))
	want(t, "too long together", tellList(smooth.Spencer(mixed)), refused(api.ErrLong))
	want(t, "long, but not that many", tellList(smooth.Spencer(mixed[1:])), tellList(mixed[1:], api.OK))
	r := random(1081)
	many := make([]api.Ratio, points)
	for i := range many {
		many[i] = fromBig(new(big.Rat).SetFrac(randomInt(r, api.MaxDigits), randomInt(r, api.MaxDigits)))
	}
	want(t, "many that have nothing in common", tellList(smooth.Spencer(many)), refused(api.ErrLong))
}

// 10.4: rates are rounded half to even, but from 0 to Unit - 1, and the last one is Unit.
func TestTable(t *testing.T) {
	long := strings.Repeat("3", api.MaxDigits)
	for text, rate := range map[string]int{
		"0": 0, "1/10": 1000000, "1/2": 5000000, "1/10000000": 1, "9999999/10000000": 9999999, "1/3": 3333333, "2/3": 6666667,
		// just between two rates, and next to that
		"1/20000000": 0, "3/20000000": 2, "1/4000000": 2, "7/20000000": 4, "1/19999999": 1, "1/20000001": 0, "2000001/20000000": 1000000, "2000003/20000000": 1000002,
		"-1": 0, "-1/10": 0, "-1/10000000": 0, "-1/20000000": 0, "-" + long: 0, "-1/" + long: 0,
		"1": 9999999, "2": 9999999, "10000001/10000000": 9999999, "19999999/20000000": 9999999, "19999997/20000000": 9999998, "19999998/19999999": 9999999, long: 9999999, long + "/2": 9999999, "1/" + long: 0, "18446744073709551617": 9999999,
	} {
		for _, count := range []int{1, 2, 9} {
			got := smoothTable(t, "t", 60, append(repeated(of(text), count), of("0")))
			want(t, "rates of "+short(text), fmt.Sprint(got.Rates[:count], got.Rates[count:]), fmt.Sprint(repeated(rate, count), ints(api.Unit)))
			last := smoothTable(t, "t", 0, append(repeated(of("1/4"), count), of(text)))
			want(t, "the last rate of "+short(text), fmt.Sprint(last.Rates[count:]), fmt.Sprint(ints(api.Unit)))
		}
	}
	r := random(109)
	for range 2000 {
		n := r.Intn(api.Unit)
		part := plus(big.NewRat(int64(n), api.Unit), by(times(big.NewRat(1, 2), plus(whole(r.Intn(3)-1), big.NewRat(1, int64(1+r.Intn(1<<40))))), whole(api.Unit)))
		got := smoothTable(t, "t", 60, fromBigs([]*big.Rat{part, whole(0)}))
		want(t, "rate of "+part.String(), fmt.Sprint(got.Rates[0]), fmt.Sprint(min(halfEven(times(part, whole(api.Unit))), api.Unit-1)))
	}
}

// halfEven is x, rounded half to even; 0, if that is below it.
func halfEven(x *big.Rat) int {
	low, rest := new(big.Int).DivMod(x.Num(), x.Denom(), new(big.Int))
	side := rest.Lsh(rest, 1).Cmp(x.Denom())
	if side > 0 || side == 0 && low.Bit(0) == 1 {
		return max(int(low.Int64())+1, 0)
	}
	return max(int(low.Int64()), 0)
}

// smoothTable is a table that is told, which must be right (10.9), and have no Select.
func smoothTable(t *testing.T, name string, first int, l []api.Ratio) api.Table {
	t.Helper()
	got, e := smooth.Table(name, first, l)
	if e != api.OK {
		t.Fatal(name, first, len(l), e)
	}
	if e := table.Check(got); e != api.OK || got.Name != name || got.First != first || len(got.Rates) != len(l) || len(got.Select) != 0 {
		t.Errorf("%s, %d of %d: %v, %s", name, first, len(l), e, tellTable(got, api.OK))
	}
	return got
}

// 10.4, 10.9: tables of one age, of all ages, up to MaxAge; names at their edges.
func TestTablesAreRight(t *testing.T) {
	r := random(1090)
	for _, name := range []string{"a", "t_9", strings.Repeat("z", api.MaxName)} {
		for first := range api.MaxAge + 1 {
			most := api.MaxAge - first + 1
			for _, count := range []int{1, most, 1 + r.Intn(most)} {
				smoothTable(t, name, first, fromBigs(anyNumbers(r, count, 1+r.Intn(9))))
			}
			if most < points {
				want(t, "Table beyond MaxAge", tellTable(smooth.Table(name, first, repeated(of("1/2"), most+1))), refused(api.ErrAge))
			}
		}
	}
	got, e := smooth.Table("one", 130, list("1/7"))
	want(t, "Table of one age", tellTable(got, e), "one 130 [10000000] []")
}

// 10.4: what is no name, ahead of what is wrong with the numbers, ahead of what is wrong with the ages.
func TestTableWrong(t *testing.T) {
	firsts := []int{0, 60, 130, -1, 131, math.MinInt, math.MaxInt}
	for _, name := range []string{"", "T", "9t", "_t", "t t", "t-t", "ä", "t\n", strings.Repeat("t", api.MaxName+1), strings.Repeat("t", api.MaxText+1)} {
		for _, first := range firsts {
			for _, l := range [][]api.Ratio{list("1/2"), nil, list("2/4"), repeated(of("x"), points+1)} {
				want(t, "Table of the name "+short(name), tellTable(smooth.Table(name, first, l)), refused(api.ErrForm))
			}
		}
	}
	for _, first := range firsts {
		want(t, "Table of too many", tellTable(smooth.Table("t", first, repeated(of("1/2"), points+1))), refused(api.ErrLong))
		want(t, "Table of too many wrong ones", tellTable(smooth.Table("t", first, repeated(of("x"), points+1))), refused(api.ErrLong))
		for wrong, e := range noNumbers() {
			for _, at := range []int{0, 1, points - 1} {
				want(t, fmt.Sprint("Table with ", wrong), tellTable(smooth.Table("t", first, with(repeated(of("1/2"), points), at, wrong))), refused(e))
			}
			for other, e := range noNumbers() {
				want(t, "Table of two wrong ones", tellTable(smooth.Table("t", first, []api.Ratio{other, wrong})), refused(e))
			}
		}
		want(t, "Table of none", tellTable(smooth.Table("t", first, nil)), refused(api.ErrAge))
		want(t, "Table of none", tellTable(smooth.Table("t", first, []api.Ratio{})), refused(api.ErrAge))
		if first < 0 || first > api.MaxAge {
			want(t, fmt.Sprint("Table from ", first), tellTable(smooth.Table("t", first, list("1/2 1/2"))), refused(api.ErrAge))
		}
	}
	for _, c := range [][2]int{{0, 131}, {130, 1}, {1, 130}, {100, 31}} {
		smoothTable(t, "t", c[0], repeated(of("1/2"), c[1]))
	}
	for _, c := range [][2]int{{1, 131}, {130, 2}, {2, 130}, {100, 32}, {130, 131}, {131, 1}, {-1, 131}, {-1, 1}} {
		want(t, fmt.Sprint("Table ", c), tellTable(smooth.Table("t", c[0], repeated(of("1/2"), c[1]))), refused(api.ErrAge))
	}
}
