package smooth

import (
	"strings"

	"tontine/api"
	"tontine/exact"
	"tontine/table"
	"tontine/whole"
)

// spencerPoints is c(-7) to c(7).
func spencerPoints() []int {
	return []int{-3, -6, -5, 3, 21, 46, 67, 74, 67, 46, 21, 3, -5, -6, -3}
}

// spencerAll is what a sum by Spencer's points is divided by.
const spencerAll = 320

// Spencer is numbers, made smooth by Spencer's points (10.4).
func Spencer(l []api.Ratio) ([]api.Ratio, api.Errno) {
	numbers, e := readPoints(l)
	if e != api.OK {
		return nil, e
	}
	points, part := spencerPoints(), exact.OfInt(spencerAll).Inverse()
	edge := len(points) / 2
	return written(len(l), func(i int) exact.Fraction {
		if i < edge || i+edge >= len(l) {
			return numbers[i]
		}
		return combined(numbers[i-edge:], points).Times(part)
	})
}

// Table is a life table of smooth rates (10.4).
func Table(name string, first int, l []api.Ratio) (api.Table, api.Errno) {
	named := api.Table{Name: name, Rates: []int{api.Unit}} // nothing but its name can be wrong
	if e := table.Check(named); e != api.OK {
		return api.Table{}, e
	}
	numbers, e := readPoints(l)
	if e != api.OK {
		return api.Table{}, e
	}
	t := api.Table{Name: strings.Clone(name), First: first, Rates: ratesOf(numbers)}
	if e := table.Check(t); e != api.OK {
		return api.Table{}, e
	}
	return t, api.OK
}

// ratesOf is numbers as a table's rates: the last one alone is Unit.
func ratesOf(numbers []exact.Fraction) []int {
	rates := make([]int, len(numbers))
	for k := range len(numbers) {
		rates[k] = rateOf(numbers[k])
	}
	if len(rates) > 0 {
		rates[len(rates)-1] = api.Unit
	}
	return rates
}

// rateOf is a number in ten-millionths, rounded half to even, but 0 at least and Unit - 1 at most.
func rateOf(f exact.Fraction) int {
	const most = api.Unit - 1
	n := exact.OfInt(api.Unit).Times(f).Round(api.RoundHalfEven)
	switch {
	case n.Neg:
		return 0
	case n.Num.Cmp(whole.Of(most)) > 0:
		return most
	}
	return int(n.Num.Word())
}
