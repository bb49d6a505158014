package decrement_test

import (
	"fmt"
	"math"
	"slices"
	"strings"
	"testing"

	"tontine/api"
	"tontine/decrement"
)

// callsAt are all calls that are given causes and an age; if wrong, with all wrong that stands behind these.
func callsAt(wrong bool) map[string]func(c api.Causes, age int) string {
	n, part, radix := 2, api.Ratio{Num: "1", Den: "3"}, 100.0
	if wrong {
		n, part, radix = -1, api.Ratio{Num: "-07"}, math.Inf(-1)
	}
	leaves := func(c api.Causes) []api.Leave {
		if wrong {
			return nil
		}
		return []api.Leave{{Live: 1, Gone: make([]int, len(c.Rates))}}
	}
	return map[string]func(c api.Causes, age int) string{
		"Dependent": func(c api.Causes, age int) string { return tellRatios(decrement.Dependent(c, age)) },
		"Stay":      func(c api.Causes, age int) string { return tellRatio(decrement.Stay(c, age, n)) },
		"Gone":      func(c api.Causes, age int) string { return tellRatios(decrement.Gone(c, age, n)) },
		"Within":    func(c api.Causes, age int) string { return tellRatios(decrement.Within(c, age, part)) },
		"Worth":     func(c api.Causes, age int) string { return tellRatios(decrement.Worth(c, n, age, leaves(c))) },
		"Floats":    func(c api.Causes, age int) string { return tellFloats(decrement.Floats(c, age, radix)) },
	}
}

// callsOf are those that are given causes and no age.
func callsOf(wrong bool) map[string]func(c api.Causes) string {
	cause, name := 0, "all"
	if wrong {
		cause, name = -1, "All"
	}
	return map[string]func(c api.Causes) string{
		"Check":   func(c api.Causes) string { return decrement.Check(c).Error() },
		"Alone":   func(c api.Causes) string { return tellCauses(decrement.Alone(c, cause)) },
		"Without": func(c api.Causes) string { return tellCauses(decrement.Without(c, cause)) },
		"Table":   func(c api.Causes) string { return tellTable(decrement.Table(c, name)) },
	}
}

// wantNone wants each call to tell that causes are not right, whatever else is wrong behind them.
func wantNone(t *testing.T, what string, c api.Causes) {
	t.Helper()
	for _, wrong := range []bool{false, true} {
		for name, call := range callsOf(wrong) {
			want(t, name+" of "+what, call(c), refused(api.ErrCauses))
		}
		for name, call := range callsAt(wrong) {
			for _, age := range []int{c.First, c.First - 1} {
				want(t, name+" of "+what, call(c, age), refused(api.ErrCauses))
			}
		}
	}
}

// wantRight wants Check to tell that causes are right, and no other call to tell that they are not, or not of their first and last age.
func wantRight(t *testing.T, what string, c api.Causes) {
	t.Helper()
	want(t, "Check of "+what, decrement.Check(c).Error(), api.OK.Error())
	for _, age := range []int{c.First, lastOf(c)} {
		for name, call := range callsAt(false) {
			if got := call(c, age); got == refused(api.ErrCauses) || got == refused(api.ErrAge) {
				t.Error(name, "of", what, got)
			}
		}
	}
	want(t, "Alone of "+what, tellCauses(decrement.Alone(c, 0)), fmt.Sprint(api.Causes{First: c.First, Rates: c.Rates[:1]}))
}

// 15.1: right causes: of each number of them, of few ages and of many, up to the age MaxAge; with rates at both ends of their range.
func TestRightCauses(t *testing.T) {
	look := func(what string, c api.Causes) { wantRight(t, what, c) }
	eachCauses(look)
	eachLongCauses(look)
	for causes := 1; causes <= most; causes++ {
		for _, first := range []int{0, 1, oldest - 1, oldest} {
			for _, ages := range []int{1, oldest - first, oldest - first + 1} {
				if ages > 0 {
					look(fmt.Sprint(causes, " causes of ", ages, " ages from ", first), causesOf(first, causes, ages, always(5)))
				}
			}
		}
	}
}

// 15.1: too few causes and too many; a First that is no age; a Last beyond MaxAge; no ages, and unlike many; and lists that are far too long (R3).
func TestNoCauses(t *testing.T) {
	two := func(change func(c *api.Causes)) api.Causes {
		c := causesOf(60, 2, 3, always(5))
		change(&c)
		return c
	}
	for what, c := range map[string]api.Causes{
		"nothing":              {},
		"no cause":             {First: 30, Rates: [][]int{}},
		"one cause too many":   causesOf(30, most+1, 1, always(5)),
		"far too many causes":  {First: 30, Rates: slices.Repeat([][]int{{5}}, api.MaxItems+1)},
		"no age":               {First: 30, Rates: [][]int{nil}},
		"no ages":              {First: 30, Rates: [][]int{{}, {}}},
		"First below 0":        two(func(c *api.Causes) { c.First = -1 }),
		"the least First":      two(func(c *api.Causes) { c.First = math.MinInt }),
		"First far below 0":    two(func(c *api.Causes) { c.First = math.MinInt + 1 }),
		"First beyond MaxAge":  {First: oldest + 1, Rates: [][]int{{5}}},
		"the greatest First":   two(func(c *api.Causes) { c.First = math.MaxInt }),
		"First far beyond":     two(func(c *api.Causes) { c.First = math.MaxInt - 1 }),
		"Last beyond MaxAge":   causesOf(oldest-1, 2, 3, always(5)),
		"one age too many":     causesOf(0, 2, oldest+2, always(5)),
		"far too many ages":    causesOf(0, 1, api.MaxItems+1, always(5)),
		"a shorter second":     two(func(c *api.Causes) { c.Rates[1] = c.Rates[1][:2] }),
		"a shorter first":      two(func(c *api.Causes) { c.Rates[0] = c.Rates[0][:2] }),
		"a second of none":     two(func(c *api.Causes) { c.Rates[1] = nil }),
		"a longer second":      two(func(c *api.Causes) { c.Rates[1] = append(c.Rates[1], 5) }),
		"a second beyond":      {First: oldest, Rates: [][]int{{5}, {5, 5}}},
		"an empty first":       two(func(c *api.Causes) { c.Rates[0] = nil }),
		"a long last of eight": {First: 1, Rates: append(slices.Repeat([][]int{{5}}, most-1), []int{5, 5})},
	} {
		wantNone(t, what, c)
	}
}

// 15.1: a rate out of its range, at each place; both ends of the range are rates.
func TestNoRates(t *testing.T) {
	for cause := range most {
		for k := range 3 {
			with := func(rate int) api.Causes {
				c := causesOf(60, most, 3, always(5))
				c.Rates[cause][k] = rate
				return c
			}
			for _, rate := range []int{-1, unit + 1, math.MinInt, math.MaxInt} {
				wantNone(t, fmt.Sprint("the rate ", rate, " at ", cause, " ", k), with(rate))
			}
			for _, rate := range []int{0, 1, unit - 1, unit} {
				want(t, fmt.Sprint("Check of the rate ", rate), decrement.Check(with(rate)).Error(), api.OK.Error())
			}
		}
	}
}

// 15.1: an age that is not from First to Last, whatever is wrong behind it.
func TestNoAges(t *testing.T) {
	look := func(what string, c api.Causes) {
		for _, age := range []int{c.First - 1, c.First - 50, lastOf(c) + 1, lastOf(c) + 50, math.MinInt, math.MaxInt} {
			for _, wrong := range []bool{false, true} {
				for name, call := range callsAt(wrong) {
					want(t, fmt.Sprint(name, " at ", age, " of ", what), call(c, age), refused(api.ErrAge))
				}
			}
		}
		for _, wrong := range []bool{false, true} {
			for name, call := range callsAt(wrong) {
				for _, age := range agesOf(c) {
					if got := call(c, age); got == refused(api.ErrAge) {
						t.Error(name, age, what, got)
					}
				}
			}
		}
	}
	eachCauses(look)
}

// 15.2: a part that is no exact number (R1), ahead of one that is out of its range; 0 and 1 are parts, and what is just between.
func TestNoParts(t *testing.T) {
	nines := strings.Repeat("9", api.MaxDigits)
	ten := "1" + strings.Repeat("0", api.MaxDigits)
	for _, c := range []struct {
		num, den string
		e        api.Errno
	}{
		{"", "", api.ErrShape}, {"1", "", api.ErrShape}, {"", "1", api.ErrShape}, {"1", "0", api.ErrShape}, {"0", "2", api.ErrShape}, {"2", "4", api.ErrShape}, {"01", "2", api.ErrShape}, {"+1", "2", api.ErrShape},
		{"-0", "1", api.ErrShape}, {"1", "-2", api.ErrShape}, {"1", "02", api.ErrShape}, {"x", "2", api.ErrShape}, {" 1", "2", api.ErrShape}, {"-2", "4", api.ErrShape}, {"4", "2", api.ErrShape}, {"2", "2", api.ErrShape},
		{"1", ten, api.ErrLong}, {ten, "1", api.ErrLong}, {"-" + ten, "3", api.ErrLong}, {"2", ten, api.ErrLong}, {ten, "0", api.ErrShape},
		{"-1", "1", api.ErrRange}, {"2", "1", api.ErrRange}, {"-1", "2", api.ErrRange}, {"3", "2", api.ErrRange}, {"-1", nines, api.ErrRange}, {nines, nines[1:] + "8", api.ErrRange}, {nines, "1", api.ErrRange}, {"-" + nines, "1", api.ErrRange},
	} {
		what := fmt.Sprint("Within ", short(c.num), " by ", short(c.den))
		want(t, what, tellRatios(decrement.Within(sample(), 30, api.Ratio{Num: c.num, Den: c.den})), refused(c.e))
		want(t, what+", nobody leaving", tellRatios(decrement.Within(causesOf(30, 2, 1, always(0)), 30, api.Ratio{Num: c.num, Den: c.den})), refused(c.e))
	}
	for _, part := range []api.Ratio{{Num: "0", Den: "1"}, {Num: "1", Den: "1"}, {Num: "1", Den: nines}, {Num: nines[1:] + "8", Den: nines}} {
		want(t, "Within a part, nobody leaving", tellRatios(decrement.Within(causesOf(30, 2, 1, always(0)), 30, part)), "0/1 0/1")
	}
}

// 15.3: years that are not from 0 to MaxYears; both ends of the range are years.
func TestNoYears(t *testing.T) {
	eachCauses(func(what string, c api.Causes) {
		for _, age := range agesOf(c) {
			for _, years := range noYears {
				want(t, fmt.Sprint("Stay ", years, " of ", what), tellRatio(decrement.Stay(c, age, years)), refused(api.ErrRange))
				want(t, fmt.Sprint("Gone ", years, " of ", what), tellRatios(decrement.Gone(c, age, years)), refused(api.ErrRange))
			}
			for _, years := range []int{0, longest} {
				for _, got := range []string{tellRatio(decrement.Stay(c, age, years)), tellRatios(decrement.Gone(c, age, years))} {
					if got == refused(api.ErrRange) {
						t.Error(what, age, years, got)
					}
				}
			}
		}
	})
}
