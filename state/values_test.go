package state_test

import (
	"fmt"
	"math"
	"math/big"
	"slices"
	"testing"

	"tontine/api"
	"tontine/ratio"
	"tontine/span"
	"tontine/state"
)

// eachStays goes over chains, of few years and of many, with payments and rates of interest.
func eachStays(do func(what string, c api.Chain, rate int, p api.Stays)) {
	r := random(163)
	look := func(what string, c api.Chain) {
		list := []api.Stays{noStays(c), anyStays(r, c), ones(c, c.States-1, len(c.Steps))}
		if len(c.Steps) < longest-1 {
			list = append(list, anyStays(r, c),
				staysOf(c, func(int, int) int { return api.MaxMoney }, func(int, int, int) int { return -api.MaxMoney }),
				staysOf(c, func(int, int) int { return -api.MaxMoney }, func(int, int, int) int { return -api.MaxMoney }),
				staysOf(c, func(int, int) int { return 0 }, func(y, i, j int) int { return y*100 + 10*i + j }),
				staysOf(c, func(y, i int) int { return 10*y + i }, func(int, int, int) int { return 0 }))
		}
		for _, p := range list {
			do(what, c, interests[r.Intn(len(interests))], p)
		}
	}
	eachChain(look)
	eachLongChain(look)
}

// 16.3: Values is what payments are worth, of all times and states; payments at the ends of what is an amount are.
func TestValues(t *testing.T) {
	eachStays(func(what string, c api.Chain, rate int, p api.Stays) {
		want(t, fmt.Sprint("Values by ", rate, " of ", what), tellRatioRows(state.Values(c, rate, p)), wantedRows(valuesOf(c, rate, p)))
	})
}

// 16.3: each rate of interest, by a chain and payments that can be followed: V(1, 0) is 3 + v (3/4 5 + 1/4 7), V(0, 0) is 2 + v (3/4 (11 + V(1, 0)) + 1/4 (13 + V(1, 1))).
func TestRatesOfInterest(t *testing.T) {
	c := chainOf(2, 2, func(_, i int) []int { return [][]int{{7500000, 2500000}, {0, unit}}[i] })
	p := api.Stays{Stay: [][]int{{2, 0}, {3, -4}}, Move: [][][]int{{{11, 13}, {0, 0}}, {{5, 7}, {1, 1}}}}
	for _, rate := range interests {
		v := rat(unit, int64(unit+rate))
		behind0 := plus(rat(3, 1), times(v, rat(22, 4)))
		behind1 := plus(rat(-4, 1), v)
		first := plus(rat(2, 1), times(v, plus(times(rat(3, 4), plus(rat(11, 1), behind0)), times(rat(1, 4), plus(rat(13, 1), behind1)))))
		second := times(v, behind1)
		want(t, fmt.Sprint("Values by ", rate), tellRatioRows(state.Values(c, rate, p)), wantedRows([][]*big.Rat{{first, second}, {behind0, behind1}, nothings(2)}))
	}
}

// inFloats is the chapter's recursion in floats; order tells which of the operations' orders is taken: 0 is the chapter's, the others are ones that it does not take.
func inFloats(c api.Chain, rate int, p api.Stays, order int) [][]float64 {
	n := len(c.Steps)
	worth := make([][]float64, n+1)
	worth[n] = make([]float64, c.States)
	v := float64(unit) / float64(unit+rate)
	for y := n - 1; y >= 0; y-- {
		for i, row := range c.Steps[y] {
			s := 0.0
			for k := range row {
				j := k
				if order == 1 { // from the last state on
					j = len(row) - 1 - k
				}
				chance, end := float64(row[j])/float64(unit), float64(p.Move[y][i][j])+worth[y+1][j]
				switch order {
				case 2: // not rounded ahead of the sum
					s = math.FMA(chance, end, s)
				case 3: // by v ahead of the sum
					s += float64(float64(v*chance) * end)
				case 4: // what is paid, and what is worth then, each by its chance
					s += float64(chance * float64(p.Move[y][i][j]))
					s += float64(chance * worth[y+1][j])
				case 5: // one by Unit times the chance
					s += float64(float64(float64(row[j])*(1/float64(unit))) * end)
				default:
					s += float64(chance * end)
				}
			}
			x := float64(p.Stay[y][i]) + float64(v*s)
			switch order {
			case 3:
				x = float64(p.Stay[y][i]) + s
			case 6: // not rounded ahead of the sum
				x = math.FMA(v, s, float64(p.Stay[y][i]))
			case 7: // by one and the rate, instead of times v
				x = float64(p.Stay[y][i]) + s/(1+float64(rate)/float64(unit))
			}
			worth[y] = append(worth[y], x)
		}
	}
	return worth
}

// 16.3, R8: Floats bit by bit; and the answers tell the chapter's order from others.
func TestFloats(t *testing.T) {
	unlike := make([]int, 8)
	eachStays(func(what string, c api.Chain, rate int, p api.Stays) {
		wanted := tellFloatRows(inFloats(c, rate, p, 0), api.OK)
		want(t, fmt.Sprint("Floats by ", rate, " of ", what), tellFloatRows(state.Floats(c, rate, p)), wanted)
		for order := 1; order < len(unlike); order++ {
			if tellFloatRows(inFloats(c, rate, p, order), api.OK) != wanted {
				unlike[order]++
			}
		}
	})
	if slices.Min(unlike[1:]) < 3 {
		t.Error("another order is hardly to be told:", unlike)
	}
}

// R8: noughts are +0, also of payments below nought that cannot come, or that go under.
func TestNoughts(t *testing.T) {
	c := chainOf(2, longest, func(_, i int) []int { return [][]int{{1, unit - 1}, {0, unit}}[i] })
	p := staysOf(c, func(y, i int) int { return 0 }, func(y, i, j int) int {
		if y == longest-1 && i == 0 && j == 0 {
			return -1
		}
		return 0
	})
	x, e := state.Floats(c, 250000, p)
	if e != api.OK {
		t.Fatal(e)
	}
	want(t, "what goes under", tellFloats(x[0]), "0 0")
	want(t, "what is nearly gone", fmt.Sprint(x[longest-40][0] < 0, x[longest-40][1]), "true 0")
	want(t, "the end", tellFloats(x[longest]), "0 0")
	s, e := state.Spans(c, 250000, p)
	if e != api.OK || s[0][0].Lo >= 0 || s[0][0].Hi != 0 || math.Signbit(s[0][0].Hi) {
		t.Error("what goes under is in", s[0][0], e)
	}
	want(t, "the end", tellSpanRows(s[longest:], e), "0 0 0 0")
	never := api.Stays{Stay: [][]int{{0, 0}}, Move: [][][]int{{{0, -5}, {-5, 0}}}}
	want(t, "what never comes", tellFloatRows(state.Floats(stays(2, 1), 0, never)), "0 0; 0 0")
}

// inSpans is the chapter's recursion in spans.
func inSpans(t *testing.T, c api.Chain, rate int, p api.Stays) [][]api.Span {
	t.Helper()
	sure := func(s api.Span, e api.Errno) api.Span {
		if e != api.OK {
			t.Fatal(e)
		}
		return s
	}
	of := func(x, y int) api.Span {
		r, _ := ratio.Of(x, y)
		return sure(span.Of(r, r))
	}
	n := len(c.Steps)
	worth := make([][]api.Span, n+1)
	worth[n] = make([]api.Span, c.States)
	for y := n - 1; y >= 0; y-- {
		for i, row := range c.Steps[y] {
			s := api.Span{}
			for j, step := range row {
				end := sure(span.Add(sure(span.Point(float64(p.Move[y][i][j]))), worth[y+1][j]))
				s = sure(span.Add(s, sure(span.Mul(of(step, unit), end))))
			}
			worth[y] = append(worth[y], sure(span.Add(sure(span.Point(float64(p.Stay[y][i]))), sure(span.Mul(of(unit, unit+rate), s)))))
		}
	}
	return worth
}

// 16.3: Spans, both ends bit by bit.
func TestSpans(t *testing.T) {
	eachStays(func(what string, c api.Chain, rate int, p api.Stays) {
		want(t, fmt.Sprint("Spans by ", rate, " of ", what), tellSpanRows(state.Spans(c, rate, p)), tellSpanRows(inSpans(t, c, rate, p), api.OK))
	})
}

// worthOf are the calls that are given a chain, a rate and payments.
func worthOf() map[string]func(c api.Chain, rate int, p api.Stays) string {
	return map[string]func(c api.Chain, rate int, p api.Stays) string{
		"Values": func(c api.Chain, rate int, p api.Stays) string { return tellRatioRows(state.Values(c, rate, p)) },
		"Floats": func(c api.Chain, rate int, p api.Stays) string { return tellFloatRows(state.Floats(c, rate, p)) },
		"Spans":  func(c api.Chain, rate int, p api.Stays) string { return tellSpanRows(state.Spans(c, rate, p)) },
		"Level":  func(c api.Chain, rate int, p api.Stays) string { return tellRatio(state.Level(c, rate, p, 0, 1)) },
	}
}

// 16.3 and 16.4: a rate of interest out of its range; both ends are in it.
func TestNoRatesOfInterest(t *testing.T) {
	c := sample(2)
	for name, call := range worthOf() {
		for _, rate := range []int{-1, api.MaxRate + 1, math.MinInt, math.MaxInt, math.MaxInt - unit + 1} {
			want(t, fmt.Sprint(name, " by ", rate), call(c, rate, noStays(c)), refused(api.ErrRange))
		}
		for _, rate := range interests {
			if got := call(c, rate, noStays(c)); got == refused(api.ErrRange) {
				t.Error(name, "by", rate, got)
			}
		}
	}
}

// 16.3 and 16.4: payments of one member too few and too many, of one row, of one amount, at each place; also far too many (R3).
func TestNoStays(t *testing.T) {
	c := sample(3)
	look := func(what string, change func(p *api.Stays)) {
		p := noStays(c)
		change(&p)
		for name, call := range worthOf() {
			want(t, name+" of "+what, call(c, 5, p), refused(api.ErrStays))
		}
	}
	row, rows := []int{0, 0, 0}, [][]int{{0, 0, 0}, {0, 0, 0}, {0, 0, 0}}
	look("nothing", func(p *api.Stays) { *p = api.Stays{} })
	look("no Stay", func(p *api.Stays) { p.Stay = nil })
	look("no Move", func(p *api.Stays) { p.Move = nil })
	look("a Stay too few", func(p *api.Stays) { p.Stay = p.Stay[:2] })
	look("a Move too few", func(p *api.Stays) { p.Move = p.Move[:2] })
	look("a Stay too many", func(p *api.Stays) { p.Stay = append(p.Stay, row) })
	look("a Move too many", func(p *api.Stays) { p.Move = append(p.Move, rows) })
	look("both too few", func(p *api.Stays) { p.Stay, p.Move = p.Stay[:2], p.Move[:2] })
	look("both too many", func(p *api.Stays) { p.Stay, p.Move = append(p.Stay, row), append(p.Move, rows) })
	look("far too many Stays", func(p *api.Stays) { p.Stay = make([][]int, api.MaxItems+1) })
	look("far too many Moves", func(p *api.Stays) { p.Move = make([][][]int, api.MaxItems+1) })
	for y := range 3 {
		for what, l := range map[string][]int{"none": nil, "too few": {0, 0}, "too many": {0, 0, 0, 0}, "far too many": make([]int, api.MaxItems+1)} {
			look(fmt.Sprint("amounts of Stay, ", what, " at ", y), func(p *api.Stays) { p.Stay[y] = l })
			for i := range 3 {
				look(fmt.Sprint("amounts of Move, ", what, " at ", y, " ", i), func(p *api.Stays) { p.Move[y][i] = l })
			}
		}
		for what, l := range map[string][][]int{"none": nil, "too few": rows[:2], "too many": append(rows[:3:3], row), "far too many": make([][]int, api.MaxItems+1)} {
			look(fmt.Sprint("rows of Move, ", what, " at ", y), func(p *api.Stays) { p.Move[y] = l })
		}
	}
}

// 16.3 and 16.4: what is no amount, at each place; both ends are amounts, at each place.
func TestNoAmounts(t *testing.T) {
	c := sample(2)
	look := func(what string, put func(p api.Stays, amount int)) {
		for name, call := range worthOf() {
			for _, amount := range []int{-api.MaxMoney - 1, api.MaxMoney + 1, math.MinInt, math.MinInt + 1, math.MaxInt} {
				p := noStays(c)
				put(p, amount)
				want(t, fmt.Sprint(name, " of ", amount, " at ", what), call(c, 5, p), refused(api.ErrMoney))
			}
			for _, amount := range []int{-api.MaxMoney, api.MaxMoney} {
				p := noStays(c)
				put(p, amount)
				if got := call(c, 5, p); got == refused(api.ErrMoney) {
					t.Error(name, "of", amount, "at", what, got)
				}
			}
		}
	}
	for y := range 2 {
		for i := range 3 {
			look(fmt.Sprint(y, " ", i), func(p api.Stays, amount int) { p.Stay[y][i] = amount })
			for j := range 3 {
				look(fmt.Sprint(y, " ", i, " ", j), func(p api.Stays, amount int) { p.Move[y][i][j] = amount })
			}
		}
	}
}

// yearsOf are both ends of the years that premiums are paid for, and one between.
func yearsOf(c api.Chain) []int {
	n := len(c.Steps)
	l := []int{1, min(2, n), (n + 1) / 2, n}
	slices.Sort(l)
	return slices.Compact(l)
}

// 16.4: Level is what payments are worth by what premiums of one are worth; also of payments that are worth nothing, or below nought.
func TestLevel(t *testing.T) {
	signs := make(map[int]int)
	eachStays(func(what string, c api.Chain, rate int, p api.Stays) {
		for _, i := range []int{0, c.States - 1} {
			for _, years := range yearsOf(c) {
				if years > 20 && i > 0 {
					continue
				}
				x := levelOf(c, rate, p, i, years)
				signs[x.Sign()]++
				want(t, fmt.Sprint("Level in ", i, " for ", years, " years by ", rate, " of ", what), tellRatio(state.Level(c, rate, p, i, years)), wantedAll([]*big.Rat{x}))
			}
		}
	})
	if len(signs) < 3 {
		t.Error("not of each sign:", signs)
	}
}

// 16.4: a state that there is not, years from 1 on up to n.
func TestNoLevel(t *testing.T) {
	for _, n := range []int{1, 3, longest} {
		c := sample(n)
		for _, i := range append([]int{-1, 3}, far...) {
			want(t, fmt.Sprint("Level in ", i), tellRatio(state.Level(c, 5, noStays(c), i, 1)), refused(api.ErrState))
		}
		for _, years := range append([]int{-1, 0, n + 1}, far...) {
			want(t, fmt.Sprint("Level for ", years), tellRatio(state.Level(c, 5, noStays(c), 0, years)), refused(api.ErrRange))
		}
		for i := range 3 {
			want(t, "Level for one year", tellRatio(state.Level(c, 5, ones(c, i, n), i, 1)), wantedAll([]*big.Rat{valuesOf(c, 5, ones(c, i, n))[0][i]}))
			want(t, "Level of itself", tellRatio(state.Level(c, 5, ones(c, i, n), i, n)), "1/1")
			want(t, "Level of nothing", tellRatio(state.Level(c, 5, noStays(c), i, n)), "0/1")
		}
	}
}

// R2: the longest numbers of this layer are far shorter than they may be: so no call answers ErrLong.
func TestNothingIsTooLong(t *testing.T) {
	c := chainOf(most, longest, func(y, i int) []int {
		row := slices.Repeat([]int{1250000}, most)
		row[(y+i)%most] += 2*i + 1
		row[(y+i+1)%most] -= 2*i + 1
		return row
	})
	p := staysOf(c, func(y, i int) int { return api.MaxMoney - y }, func(y, i, j int) int { return api.MaxMoney - i*j })
	longestNumber := 0
	seen := func(rows [][]api.Ratio, e api.Errno) {
		t.Helper()
		for _, l := range numberRows(t, rows, e) {
			for _, x := range l {
				longestNumber = max(longestNumber, len(x.Num().String()), len(x.Denom().String()))
			}
		}
	}
	seen(state.Values(c, api.MaxRate-7, p))
	seen(state.Move(c, 0, longest))
	x, e := state.Level(c, api.MaxRate-7, p, 0, longest)
	seen([][]api.Ratio{{x}}, e)
	if longestNumber < 1000 || longestNumber > api.MaxDigits {
		t.Error("the longest number has", longestNumber, "digits")
	}
}
