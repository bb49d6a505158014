package decrement_test

import (
	"fmt"
	"math"
	"testing"

	"tontine/api"
	"tontine/decrement"
)

// radixes are radixes at both ends of their range, both noughts, and between.
func radixes() []float64 {
	return []float64{0, math.Copysign(0, -1), math.SmallestNonzeroFloat64, 0x1p-1022, 0.1, 1, 100000, math.MaxFloat64}
}

// floatsOf is the floats as 15.7 writes them.
func floatsOf(c api.Causes, age int, radix float64) []float64 {
	l := []float64{radix}
	for ; age <= lastOf(c); age++ {
		p := 1.0
		for _, rate := range atAge(c, age) {
			part := (float64(unit) - float64(rate)) / float64(unit)
			p = p * part
		}
		l = append(l, l[len(l)-1]*p)
	}
	return l
}

// 15.7, R8: the floats, bit by bit, from each age on, of each radix.
func TestFloats(t *testing.T) {
	look := func(what string, c api.Causes) {
		for _, age := range agesOf(c) {
			for _, radix := range radixes() {
				want(t, fmt.Sprint("Floats of ", radix, " at ", age, " of ", what), tellFloats(decrement.Floats(c, age, radix)), tellFloats(floatsOf(c, age, radix), api.OK))
			}
		}
	}
	eachCauses(look)
	eachLongCauses(look)
}

// 15.7: causes are taken in their order, all of a year ahead of the next one, which may be seen in the last bits.
func TestOrderOfFloats(t *testing.T) {
	c := causesOf(60, 3, 2, func(cause, k int) int { return []int{1234567, 7654321, 1111111, 3333333, 999999, 5432109}[3*k+cause] })
	one := []float64{0.8765433, 0.2345679, 0.8888889, 0.6666667, 0.9000001, 0.4567891}
	first, second := 1*one[0]*one[1]*one[2], 1*one[3]*one[4]*one[5]
	want(t, "Floats", tellFloats(decrement.Floats(c, 60, 98765.4321)), tellFloats([]float64{98765.4321, 98765.4321 * first, 98765.4321 * first * second}, api.OK))
	seen := false
	r := random(157)
	for range 50 {
		c := causesOf(60, 3, 2, func(int, int) int { return r.Intn(unit) })
		got := tellFloats(decrement.Floats(c, 60, 1))
		want(t, fmt.Sprint("Floats of ", c), got, tellFloats(floatsOf(c, 60, 1), api.OK))
		c.Rates[0], c.Rates[1], c.Rates[2] = c.Rates[2], c.Rates[0], c.Rates[1]
		seen = seen || got != tellFloats(decrement.Floats(c, 60, 1))
	}
	if !seen {
		t.Error("the order of the causes made no difference")
	}
}

// 15.7: a radix that is infinite or none, and one that is below nought; behind a wrong age.
func TestNoRadix(t *testing.T) {
	eachCauses(func(what string, c api.Causes) {
		for _, radix := range []float64{math.Inf(1), math.Inf(-1), math.NaN(), -1, -math.SmallestNonzeroFloat64, -math.MaxFloat64} {
			e := api.ErrNotFinite
			if radix > math.Inf(-1) && radix < 0 {
				e = api.ErrRange
			}
			want(t, fmt.Sprint("Floats of ", radix, " of ", what), tellFloats(decrement.Floats(c, c.First, radix)), refused(e))
			want(t, fmt.Sprint("Floats of ", radix, " at no age of ", what), tellFloats(decrement.Floats(c, lastOf(c)+1, radix)), refused(api.ErrAge))
		}
	})
}
