package column_test

import (
	"fmt"
	"math"
	"testing"

	"tontine/api"
	"tontine/column"
	"tontine/table"
)

// radixes are floats that may be one: noughts, subnormal, normal, the greatest.
var radixes = []float64{0, math.Copysign(0, -1), 5e-324, 3e-320, 0x1p-1022, 0.1, 1, 100000, 1e300, math.MaxFloat64}

// floatColumns are the columns in floats, by the Words.
func floatColumns(t *testing.T, b api.Basis, l api.Life, radix float64) map[string][]float64 {
	t.Helper()
	rates := ratesOf(b.Table, l)
	m := len(rates)
	alive, e := table.Lives(b.Table, l, radix)
	if e != api.OK || len(alive) != m+1 {
		t.Fatal(alive, e)
	}
	v, power := 10000000.0/float64(10000000+b.Rate), []float64{1}
	var d, c []float64
	for n, rate := range rates {
		power = append(power, float64(power[n]*v))
		dying := float64(alive[n] * (float64(rate) / 10000000.0))
		d, c = append(d, float64(alive[n]*power[n])), append(c, float64(dying*power[n+1]))
	}
	d, c = append(d, float64(alive[m]*power[m])), append(c, 0)
	return sixOf(d, fromEnd(d), fromEnd(fromEnd(d)), c, fromEnd(c), fromEnd(fromEnd(c)))
}

// fromEnd is the sums of a column, from its last line on.
func fromEnd(column []float64) []float64 {
	sums := make([]float64, len(column))
	last := len(column) - 1
	sums[last] = column[last]
	for n := last - 1; n >= 0; n-- {
		sums[n] = sums[n+1] + column[n]
	}
	return sums
}

// 12.1: Floats, bit by bit, m + 1 members in each.
func TestFloats(t *testing.T) {
	check := func(what string, b api.Basis, l api.Life) {
		for _, radix := range radixes {
			wanted := floatColumns(t, b, l, radix)
			got, e := column.Floats(b, l, radix)
			want(t, fmt.Sprint("Floats of ", what, ", ", radix), tellColumns(got, e), tellSix(wanted, api.OK, tellFloat))
			for name, l := range floatsOf(got) {
				if len(l) != len(wanted["D"]) {
					t.Errorf("%s: %s has %d members", what, name, len(l))
				}
			}
		}
	}
	eachLife(check)
	eachLong(check)
}

// 12.1: the order of operations is to be seen in the last digits: the tables of the tests tell other orders apart.
func TestFloatsAreRounded(t *testing.T) {
	others := map[string]int{}
	eachLong(func(what string, b api.Basis, l api.Life) {
		rates := ratesOf(b.Table, l)
		alive, _ := table.Lives(b.Table, l, 1)
		got, e := column.Floats(b, l, 1)
		if e != api.OK {
			t.Fatal(e)
		}
		v, power, front := 10000000.0/float64(10000000+b.Rate), 1.0, 0.0
		for n, rate := range rates {
			q, d, next := float64(rate)/10000000.0, got.D[n], float64(power*v)
			count := func(other string, x, y float64) {
				if x != y {
					others[other]++
				}
			}
			count("L (q P)", got.C[n], alive[n]*float64(q*next))
			count("(D q) v", got.C[n], float64(d*q)*v)
			count("P (L - L)", got.C[n], (alive[n]-alive[n+1])*next)
			count("a power at once", got.D[n], alive[n]*math.Pow(v, float64(n)))
			count("by a power", got.D[n], alive[n]/math.Pow(1+float64(b.Rate)/10000000.0, float64(n)))
			front += d
			power = next
		}
		if front != got.N[0] {
			others["from the front"]++
		}
	})
	for _, other := range []string{"L (q P)", "(D q) v", "P (L - L)", "a power at once", "by a power", "from the front"} {
		if others[other] == 0 {
			t.Errorf("no column tells %s apart", other)
		}
	}
}

// 12.1, R8: a radix that is -0 makes D and C -0, and so their sums; but the last C is +0, and so M and R.
func TestFloatsOfNought(t *testing.T) {
	b, _ := sample()
	l, zero, none := api.Life{Entry: 62}, math.Copysign(0, -1), 0.0
	below, above := []float64{zero, zero, zero}, []float64{none, none, none}
	wanted := sixOf(below, below, below, []float64{zero, zero, none}, above, above)
	want(t, "Floats of -0", tellColumns(column.Floats(b, l, zero)), tellSix(wanted, api.OK, tellFloat))
	want(t, "Floats of +0", tellColumns(column.Floats(b, l, 0)), tellSix(sixOf(above, above, above, above, above, above), api.OK, tellFloat))
}

// 12.1: the least radix, and the greatest one, whose sums are infinite.
func TestFloatsAtTheEnds(t *testing.T) {
	b, _ := sample()
	b.Rate = 0
	l, least, most, infinite := api.Life{Entry: 61}, 5e-324, math.MaxFloat64, math.Inf(1)
	wanted := sixOf([]float64{least, least, 0, 0}, []float64{2 * least, least, 0, 0}, []float64{3 * least, least, 0, 0}, []float64{0, 0, 0, 0}, []float64{0, 0, 0, 0}, []float64{0, 0, 0, 0})
	want(t, "Floats of the least", tellColumns(column.Floats(b, l, least)), tellSix(wanted, api.OK, tellFloat))
	b.Table.Rates[1] = 0
	got, e := column.Floats(b, l, most)
	want(t, "D of the greatest", told(listed(got.D, tellFloat), e, false), listed([]float64{most, most, most / 2, 0}, tellFloat))
	want(t, "N of the greatest", told(listed(got.N, tellFloat), e, false), listed([]float64{infinite, infinite, most / 2, 0}, tellFloat))
	want(t, "S of the greatest", told(listed(got.S, tellFloat), e, false), listed([]float64{infinite, infinite, most / 2, 0}, tellFloat))
}

// 12.1: radixes that are infinite, none, or below nought, behind all that is wrong with the basis and the life.
func TestNoRadix(t *testing.T) {
	b, l := sample()
	for radix, e := range map[float64]api.Errno{math.NaN(): api.ErrNotFinite, math.Inf(1): api.ErrNotFinite, math.Inf(-1): api.ErrNotFinite, -5e-324: api.ErrRange, -1: api.ErrRange, -math.MaxFloat64: api.ErrRange} {
		want(t, fmt.Sprint("Floats of ", radix), tellColumns(column.Floats(b, l, radix)), refused(e))
		want(t, fmt.Sprint("Floats of no life and ", radix), tellColumns(column.Floats(b, api.Life{Entry: 64}, radix)), refused(api.ErrAge))
	}
}
