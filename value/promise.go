package value

import (
	"tontine/api"
	"tontine/reckon"
)

// promise is what is still to come of a benefit at the times 0, 1, 2 .., worth then: what hangs on the life, to one who is alive then; and what is sure, as long as there is any.
type promise[T any] struct {
	numbers    reckon.Numbers[T]
	life, sure []T
}

// promised is that of a life with these rates, at a yearly rate of interest.
func promised[T any](n reckon.Numbers[T], interest int, rates []int, f api.Benefit) promise[T] {
	v := n.Of(api.Unit, api.Unit+interest)
	return promise[T]{numbers: n, life: onLife(n, v, rates, unsure(f)), sure: surely(n, v, f)}
}

// at is all that is still to come at the time t.
func (p promise[T]) at(t int) T {
	if t >= len(p.sure) {
		return p.life[t]
	}
	return p.numbers.Plus(p.life[t], p.sure[t])
}

// onLife is what a benefit of which nothing is sure is worth at the times 0, 1, 2 .., up to the last rate's end: the stated recursion.
func onLife[T any](n reckon.Numbers[T], v T, rates []int, f api.Benefit) []T {
	pays, _ := kindOf(f.Kind)
	last := len(rates)
	worth := make([]T, last+1)
	worth[last] = n.Of(0, 1)
	for back := range last {
		k := last - 1 - back
		q, p := n.Of(rates[k], api.Unit), n.Of(api.Unit-rates[k], api.Unit)
		now, then, dead := n.Of(pays.now(f, k), 1), n.Of(pays.then(f, k), 1), n.Of(pays.dead(f, k), 1)
		lives := n.Times(p, n.Plus(then, worth[k+1]))
		worth[k] = n.Plus(now, n.Times(v, n.Plus(n.Times(q, dead), lives)))
	}
	return worth
}

// surely is the sure part of a benefit at the times 0, 1, 2 .., as long as a payment is to come that is sure.
func surely[T any](n reckon.Numbers[T], v T, f api.Benefit) []T {
	if f.Sure == 0 {
		return nil
	}
	end := f.Wait + f.Sure
	worth := make([]T, end)
	c, one := n.Of(0, 1), n.Of(1, 1)
	for back := range end {
		t := end - 1 - back
		switch {
		case t < f.Wait:
			c = n.Times(v, c)
		case f.Kind == api.BDue:
			c = n.Plus(one, n.Times(v, c))
		default:
			c = n.Times(v, n.Plus(one, c))
		}
		worth[t] = c
	}
	return worth
}
