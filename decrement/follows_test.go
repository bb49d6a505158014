package decrement_test

import (
	"fmt"
	"math/big"
	"slices"
	"testing"

	"tontine/api"
	"tontine/decrement"
	"tontine/table"
)

// 15.8 (W5): stay of a year and its dependent rates sum to 1; so do, of any part of the year, what is still there and what has left.
func TestNothingIsLeftOver(t *testing.T) {
	eachCauses(func(what string, c api.Causes) {
		for age := c.First; age <= lastOf(c); age++ {
			r, e := decrement.Stay(c, age, 1)
			stay := number(t, r, e)
			l, e := decrement.Dependent(c, age)
			want(t, fmt.Sprint("a year at ", age, " of ", what), plus(stay, sumOf(numbers(t, l, e))).String(), "1/1")
			for _, u := range parts() {
				l, e := decrement.Within(c, age, ratioOf(u))
				want(t, fmt.Sprint(u, " of a year at ", age, " of ", what), plus(stayOf(atAge(c, age), u), sumOf(numbers(t, l, e))).String(), "1/1")
			}
		}
	})
}

// 15.8 (W5): Stay and Gone of any years up to Last sum to 1; behind it Gone sums to what has left till then.
func TestYearsSum(t *testing.T) {
	look := func(what string, c api.Causes) {
		for _, age := range agesOf(c) {
			left := lastOf(c) - age + 1
			for _, years := range yearsOf(c, age) {
				within := min(years, left, 40)
				r, e := decrement.Stay(c, age, within)
				stay := number(t, r, e)
				l, e := decrement.Gone(c, age, within)
				want(t, fmt.Sprint(within, " years at ", age, " of ", what), plus(stay, sumOf(numbers(t, l, e))).String(), "1/1")
			}
		}
	}
	eachCauses(look)
	eachLongCauses(look)
}

// 15.9: a dependent rate is not above the independent one, and is that, if no other cause is at work; with one cause less no other one's is less.
func TestDependentIsNotAbove(t *testing.T) {
	eachCauses(func(what string, c api.Causes) {
		for _, age := range agesOf(c) {
			l, e := decrement.Dependent(c, age)
			dependent := numbers(t, l, e)
			for cause, rate := range atAge(c, age) {
				independent := rat(int64(rate), unit)
				if dependent[cause].Cmp(independent) > 0 {
					t.Error("the cause", cause, "of", what, "takes", dependent[cause])
				}
				alone, e := decrement.Alone(c, cause)
				if e != api.OK {
					t.Fatal(e)
				}
				want(t, fmt.Sprint("Dependent of ", cause, " alone of ", what), tellRatios(decrement.Dependent(alone, age)), independent.String())
				if len(c.Rates) > 1 {
					wantNotLess(t, what, c, cause, age, dependent)
				}
			}
		}
	})
	idle := causesOf(60, 3, 1, func(cause, _ int) int { return []int{0, 123, 0}[cause] })
	want(t, "Dependent of one that is at work", tellRatios(decrement.Dependent(idle, 60)), "0/1 123/10000000 0/1")
}

// wantNotLess wants no dependent rate to be less without a cause; to be the same, if that was never at work.
func wantNotLess(t *testing.T, what string, c api.Causes, cause, age int, with []*big.Rat) {
	t.Helper()
	others, e := decrement.Without(c, cause)
	if e != api.OK {
		t.Fatal(e)
	}
	l, e := decrement.Dependent(others, age)
	without := numbers(t, l, e)
	for i, x := range slices.Delete(slices.Clone(with), cause, cause+1) {
		if without[i].Cmp(x) < 0 || c.Rates[cause][age-c.First] == 0 && without[i].Cmp(x) != 0 {
			t.Error("without the cause", cause, "of", what, "the other one at", i, "takes", without[i], "instead of", x)
		}
	}
}

// 15.9: causes may change places: what each one takes does with them; who stays, and what is worth, hangs not on it.
func TestPlaces(t *testing.T) {
	r := random(159)
	eachCauses(func(what string, c api.Causes) {
		places := r.Perm(len(c.Rates))
		moved := api.Causes{First: c.First, Rates: make([][]int, len(c.Rates))}
		for cause, place := range places {
			moved.Rates[place] = c.Rates[cause]
		}
		same := func(call func(c api.Causes) ([]api.Ratio, api.Errno)) {
			t.Helper()
			l, e := call(c)
			m, f := call(moved)
			if len(l) != len(places) || len(m) != len(places) {
				t.Fatal(what, e, f)
			}
			for cause, place := range places {
				want(t, fmt.Sprint("the cause ", cause, " at the place ", place, " of ", what), tellRatio(m[place], f), tellRatio(l[cause], e))
			}
		}
		for _, age := range agesOf(c) {
			same(func(c api.Causes) ([]api.Ratio, api.Errno) { return decrement.Dependent(c, age) })
			same(func(c api.Causes) ([]api.Ratio, api.Errno) {
				return decrement.Within(c, age, api.Ratio{Num: "2", Den: "7"})
			})
			same(func(c api.Causes) ([]api.Ratio, api.Errno) { return decrement.Gone(c, age, 3) })
			want(t, "Stay of "+what, tellRatio(decrement.Stay(moved, age, 3)), tellRatio(decrement.Stay(c, age, 3)))
			paid := leavesFor(r, lastOf(c)-age+1, len(places))
			others := make([]api.Leave, len(paid))
			for n, p := range paid {
				others[n] = api.Leave{Live: p.Live, Gone: make([]int, len(places))}
				for cause, place := range places {
					others[n].Gone[place] = p.Gone[cause]
				}
			}
			want(t, "Worth of "+what, tellRatios(decrement.Worth(moved, 5, age, others)), tellRatios(decrement.Worth(c, 5, age, paid)))
		}
		want(t, "Table of "+what, tellTable(decrement.Table(moved, "t")), tellTable(decrement.Table(c, "t")))
	})
}

// 15.10: to stay m + n years is to stay m, and then n.
func TestStayOn(t *testing.T) {
	look := func(what string, c api.Causes) {
		for _, age := range agesOf(c) {
			left := min(lastOf(c)-age+1, 60)
			for _, m := range []int{0, 1, left / 2, left - 1} {
				for _, n := range []int{0, 1, left - m, left - m + 1} {
					if age+m > lastOf(c) {
						continue
					}
					r, e := decrement.Stay(c, age, m)
					first := number(t, r, e)
					r, e = decrement.Stay(c, age+m, n)
					want(t, fmt.Sprint(m, " and ", n, " years at ", age, " of ", what), tellRatio(decrement.Stay(c, age, m+n)), wanted(times(first, number(t, r, e))))
				}
			}
		}
	}
	eachCauses(look)
	eachLongCauses(look)
}

// 15.10: with one cause, of which Table tells, survival of that table is Stay, up to Last.
func TestOneCauseIsATable(t *testing.T) {
	told := 0
	look := func(what string, c api.Causes) {
		for cause := range c.Rates {
			alone, e := decrement.Alone(c, cause)
			if e != api.OK {
				t.Fatal(e)
			}
			a, e := decrement.Table(alone, "t")
			if e != api.OK {
				continue
			}
			told++
			for _, age := range agesOf(c) {
				for years := 0; years <= lastOf(c)-age; years += 1 + years/4 {
					want(t, fmt.Sprint(years, " years at ", age, " of the cause ", cause, " of ", what), tellRatio(decrement.Stay(alone, age, years)), tellRatio(table.Survive(a, api.Life{Entry: age}, years)))
				}
			}
		}
	}
	eachCauses(look)
	eachLongCauses(look)
	if told < 20 {
		t.Error("only", told, "causes make a table")
	}
}

// 15.11: what is worth is the sum of all that may be paid, by the chances to be paid it.
func TestWorthIsWhatMayBePaid(t *testing.T) {
	r := random(1511)
	eachCauses(func(what string, c api.Causes) {
		for _, age := range agesOf(c) {
			for _, years := range yearsFrom(c, age) {
				rate := interests[r.Intn(len(interests))]
				paid := leavesFor(r, years, len(c.Rates))
				sum, v := new(big.Rat), rat(1, 1)
				before, e := decrement.Gone(c, age, 0)
				for k, p := range paid {
					v = times(v, rat(unit, int64(unit+rate)))
					r, f := decrement.Stay(c, age, k+1)
					year := times(number(t, r, f), rat(int64(p.Live), 1))
					gone, f := decrement.Gone(c, age, k+1)
					for cause, amount := range p.Gone {
						chance := minus(number(t, gone[cause], f), number(t, before[cause], e))
						year = plus(year, times(chance, rat(int64(amount), 1)))
					}
					sum, before = plus(sum, times(v, year)), gone
				}
				l, e := decrement.Worth(c, rate, age, paid)
				want(t, fmt.Sprint("Worth of ", years, " years at ", age, " of ", what), numbers(t, l, e)[0].String(), sum.String())
			}
		}
	})
}

// 15.6: what is worth later is what is worth at once of the later payments at a later age.
func TestWorthLater(t *testing.T) {
	r := random(1512)
	eachCauses(func(what string, c api.Causes) {
		paid := leavesFor(r, len(c.Rates[0]), len(c.Rates))
		l, e := decrement.Worth(c, 5, c.First, paid)
		all := numbers(t, l, e)
		for n := range paid {
			l, e := decrement.Worth(c, 5, c.First+n, paid[n:])
			want(t, fmt.Sprint("Worth in ", n, " years of ", what), fmt.Sprint(numbers(t, l, e)), fmt.Sprint(all[n:]))
		}
	})
}
