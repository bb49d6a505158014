package decrement

import (
	"tontine/api"
	"tontine/exact"
	"tontine/whole"
)

// year is the causes' rates at an age, in order. Behind the last cause stand noughts: what is never at work changes nothing.
type year [MaxCauses]int

// yearOf is the rates at an age, which is one of the causes'.
func yearOf(c api.Causes, age int) year {
	var y year
	for cause, rates := range c.Rates {
		y[cause] = rates[age-c.First]
	}
	return y
}

// aYear is the part of a year that is all of it.
func aYear() exact.Fraction { return exact.OfInt(1) }

// none stands for no cause: nobody is taken.
const none = -1

// path is the product of what all causes at work do: the one that is told takes, all others spare.
func (y year) path(cause int) polynomial {
	p := polynomial{natural(1)}
	for other, rate := range y {
		step := polynomial.spared
		switch {
		case other == cause:
			step = polynomial.taken
		case rate == 0: // a factor of 1
			continue
		}
		p = step(p, rate)
	}
	return p
}

// all is what the chances up to the part u of the year are told by: Unit, and u.Den, for each cause at work.
func (y year) all(u exact.Fraction) whole.Nat {
	working := 0
	for _, rate := range y {
		if rate > 0 {
			working++
		}
	}
	return natural(api.Unit).Mul(u.Den).Pow(working)
}

// still is how many of all are still there at the part u of the year.
func (y year) still(u exact.Fraction) whole.Nat { return y.path(none).at(u) }

// left is how many of all times common have left by a cause up to the part u of the year.
func (y year) left(cause int, u exact.Fraction) whole.Nat {
	return y.path(cause).mean().at(u).Mul(u.Num)
}

// outcome is what becomes of those who are there at the beginning of a year: how many of all stay, and how many of all times common leave by each cause.
type outcome struct {
	all, stay whole.Nat
	gone      [MaxCauses]whole.Nat
}

func (y year) outcome() outcome {
	o := outcome{all: y.all(aYear()), stay: y.still(aYear())}
	for cause, rate := range y {
		if rate > 0 {
			o.gone[cause] = y.left(cause, aYear())
		}
	}
	return o
}

// outcomes is what becomes of them in so many years from an age on, up to Last; of a year that is as the one ahead of it, it is known already.
func outcomes(c api.Causes, age, years int) []outcome {
	list := make([]outcome, min(years, last(c)-age+1))
	var before year
	for n := range len(list) {
		y := yearOf(c, age+n)
		if n > 0 && y == before {
			list[n] = list[n-1]
		} else {
			list[n] = y.outcome()
		}
		before = y
	}
	return list
}
