package state

import (
	"tontine/api"
	"tontine/exact"
	"tontine/reckon"
	"tontine/whole"
)

// walk goes over a chain's years from the end, in numbers of one kind; what it does with these it has in its fields.
type walk[T any] struct {
	amount      func(pennies int) T
	chance      func(step int) T // of so many ten-millionths
	plus, times func(x, y T) T
	v           T // of a year
}

// values is what payments are worth at each time, in each state (16.3).
func (w walk[T]) values(c api.Chain, p api.Stays) [][]T {
	n := len(c.Steps)
	all := make([][]T, n+1)
	for range c.States {
		all[n] = append(all[n], w.amount(0))
	}
	for t := n - 1; t >= 0; t-- {
		for i, row := range c.Steps[t] {
			all[t] = append(all[t], w.plus(w.amount(p.Stay[t][i]), w.times(w.v, w.coming(row, p.Move[t][i], all[t+1]))))
		}
	}
	return all
}

// coming is what is paid at the year's end, and worth then, in the mean.
func (w walk[T]) coming(row, move []int, worth []T) T {
	s := w.amount(0)
	for j, step := range row {
		s = w.plus(s, w.times(w.chance(step), w.plus(w.amount(move[j]), worth[j])))
	}
	return s
}

// stepwise is the walk whose operations are each rounded by themselves, if numbers of that kind are.
func stepwise[T any](n reckon.Numbers[T], rate int) walk[T] {
	return walk[T]{
		amount: func(pennies int) T { return n.Of(pennies, 1) },
		chance: func(step int) T { return n.Of(step, api.Unit) },
		plus:   n.Plus,
		times:  n.Times,
		v:      n.Of(api.Unit, api.Unit+rate),
	}
}

// scaled is a whole number by Unit + rate to the power behind. In such numbers nobody looks for common divisors on the way.
type scaled struct {
	neg   bool
	size  whole.Nat
	power int
}

// exactly is the walk in exact numbers. Each chance is by Unit, and is multiplied once by v, which is Unit by Unit + rate: so Unit is left out of both.
func exactly(c api.Chain, rate int) walk[scaled] {
	powers := powersOf(whole.Of(uint64(api.Unit+rate)), len(c.Steps))
	return walk[scaled]{
		amount: func(pennies int) scaled {
			return scaled{neg: pennies < 0, size: whole.Of(uint64(max(pennies, -pennies)))}
		},
		chance: func(step int) scaled { return scaled{size: whole.Of(uint64(step))} },
		plus:   func(x, y scaled) scaled { return x.plus(y, powers) },
		times:  scaled.times,
		v:      scaled{size: whole.Of(1), power: 1},
	}
}

// powersOf is the powers of a number, from the 0th to the nth one.
func powersOf(x whole.Nat, n int) []whole.Nat {
	powers := []whole.Nat{whole.Of(1)}
	for k := range n {
		powers = append(powers, powers[k].Mul(x))
	}
	return powers
}

func (x scaled) plus(y scaled, powers []whole.Nat) scaled {
	switch {
	case y.size.IsZero():
		return x
	case x.size.IsZero():
		return y
	}
	power := max(x.power, y.power)
	neg, size := exact.PlusSigned(x.neg, x.size.Mul(powers[power-x.power]), y.neg, y.size.Mul(powers[power-y.power]))
	return scaled{neg, size, power}
}

func (x scaled) times(y scaled) scaled {
	return scaled{x.neg != y.neg, x.size.Mul(y.size), x.power + y.power}
}
