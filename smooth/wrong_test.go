package smooth_test

import (
	"fmt"
	"testing"

	"tontine/api"
	"tontine/smooth"
)

// seenCalls are all calls that are given what was seen and its weights, in exact numbers; if wrong, with all that stands behind these wrong too.
func seenCalls(wrong bool) map[string]func(seen []api.Ratio, weights []int) string {
	order, h, power := 1, 1, 0
	l := func(seen []api.Ratio) []api.Ratio { return repeated(of("1/3"), len(seen)) }
	if wrong {
		order, h, power = 0, -1, -1
		l = func([]api.Ratio) []api.Ratio { return repeated(of("x"), points+1) }
	}
	return map[string]func(seen []api.Ratio, weights []int) string{
		"Graduate": func(seen []api.Ratio, weights []int) string {
			return tellList(smooth.Graduate(seen, weights, order, h))
		},
		"Measure": func(seen []api.Ratio, weights []int) string {
			return tellTwo(smooth.Measure(seen, weights, order, l(seen)))
		},
		"Moment": func(seen []api.Ratio, weights []int) string {
			return tell(smooth.Moment(seen, weights, l(seen), power))
		},
	}
}

// 10.2, R1: too many numbers, then numbers that are not right, ahead of all else.
func TestSeenWrong(t *testing.T) {
	for _, wrong := range []bool{false, true} {
		for name, call := range seenCalls(wrong) {
			for _, weights := range [][]int{repeated(1, points), repeated(1, points+1), nil, repeated(-1, points)} {
				want(t, name+" of too many", call(repeated(of("1"), points+1), weights), refused(api.ErrLong))
				want(t, name+" of too many wrong ones", call(repeated(of("x"), points+1), weights), refused(api.ErrLong))
				for number, e := range noNumbers() {
					for _, at := range []int{0, 64, points - 1} {
						want(t, fmt.Sprint(name, " with ", number), call(with(repeated(of("1"), points), at, number), weights), refused(e))
					}
					for other, e := range noNumbers() {
						want(t, name+" of two wrong ones", call([]api.Ratio{of("5"), other, number}, weights), refused(e))
					}
				}
			}
		}
	}
}

// weightCalls are all calls that are given weights, of so many numbers that were seen.
func weightCalls(wrong bool, count int) map[string]func(weights []int) string {
	calls := map[string]func(weights []int) string{}
	for name, call := range seenCalls(wrong) {
		calls[name] = func(weights []int) string { return call(repeated(of("1/3"), count), weights) }
	}
	order, h := 1, 1
	if wrong {
		order, h = 0, -1
	}
	calls["Floats"] = func(weights []int) string {
		return tellFloats(smooth.Floats(repeated(0.3, count), weights, order, h))
	}
	return calls
}

// 10.2, 10.3: too many weights, ahead of such that are not as many as what was seen, or out of their range.
func TestWeightsWrong(t *testing.T) {
	for _, wrong := range []bool{false, true} {
		for _, count := range []int{0, 1, 2, points} {
			for name, call := range weightCalls(wrong, count) {
				for _, w := range []int{0, 1, -1} {
					want(t, name+" by too many", call(repeated(w, points+1)), refused(api.ErrLong))
					want(t, name+" by far too many", call(repeated(w, api.MaxItems+1)), refused(api.ErrLong))
					for _, n := range []int{0, 1, 2, 3, points - 1, points} {
						if n != count {
							want(t, fmt.Sprint(name, " of ", count, " by ", n), call(repeated(w, n)), refused(api.ErrOrder))
						}
					}
				}
				for _, w := range noWeights {
					for _, at := range []int{0, count / 2, count - 1} {
						if at >= 0 && at < count {
							want(t, fmt.Sprint(name, " by ", w), call(with(repeated(1, count), at, w)), refused(api.ErrOrder))
							want(t, fmt.Sprint(name, " by ", w), call(with(repeated(0, count), at, w)), refused(api.ErrOrder))
						}
					}
				}
			}
		}
	}
}

// 10.2, 10.3: orders and smoothnesses out of their range, ahead of what has not just one graduation, and of nothing, too.
func TestOrdersWrong(t *testing.T) {
	for _, count := range []int{0, 1, 5, points} {
		seen, floats := repeated(of("1/3"), count), repeated(0.3, count)
		for _, w := range []int{0, 1, heaviest} {
			weights := repeated(w, count)
			check := func(order, h int) {
				t.Helper()
				want(t, fmt.Sprint("Graduate ", order, " ", h), tellList(smooth.Graduate(seen, weights, order, h)), refused(api.ErrOrder))
				want(t, fmt.Sprint("Floats ", order, " ", h), tellFloats(smooth.Floats(floats, weights, order, h)), refused(api.ErrOrder))
			}
			for _, order := range noOrders {
				for _, h := range append([]int{0, 1, heaviest}, noWeights...) {
					check(order, h)
				}
				for _, l := range [][]api.Ratio{seen, nil, list("x y"), repeated(of("x"), points+1)} {
					want(t, fmt.Sprint("Measure ", order), tellTwo(smooth.Measure(seen, weights, order, l)), refused(api.ErrOrder))
				}
			}
			for order := 1; order <= api.MaxOrder; order++ {
				for _, h := range noWeights {
					check(order, h)
				}
			}
		}
	}
}

// 10.2: the numbers that are held against what was seen: too many, not right, not as many, and then a power out of its range.
func TestNumbersWrong(t *testing.T) {
	for _, count := range []int{0, 1, 5, points} {
		seen, weights := repeated(of("1/3"), count), repeated(1, count)
		check := func(what string, l []api.Ratio, e api.Errno) {
			t.Helper()
			want(t, "Measure, "+what, tellTwo(smooth.Measure(seen, weights, 2, l)), refused(e))
			for _, power := range []int{0, api.MaxOrder, -1, api.MaxOrder + 1} {
				want(t, "Moment, "+what, tell(smooth.Moment(seen, weights, l, power)), refused(e))
			}
		}
		check("too many", repeated(of("1"), points+1), api.ErrLong)
		check("too many wrong ones", repeated(of("x"), points+1), api.ErrLong)
		for number, e := range noNumbers() {
			check("a wrong one", []api.Ratio{number}, e)
			check("a wrong one, and too few", []api.Ratio{of("1"), of("2"), number}, e)
			check("a wrong one at the end", with(repeated(of("1"), points), points-1, number), e)
			for other, e := range noNumbers() {
				check("two wrong ones", []api.Ratio{of("5"), other, number}, e)
			}
		}
		for _, n := range []int{0, 1, 2, 4, 6, points - 1, points} {
			if n != count {
				check("unlike lengths", repeated(of("1/7"), n), api.ErrPairs)
			}
		}
	}
}
