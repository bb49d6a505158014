package value_test

import (
	"math/big"

	"tontine/api"
)

// What the chapter's Words say, as they say it: for each year the payments one by one, and means over all years in which one may die.

// payments are what a benefit pays on a death in the year k: how much at which time.
func payments(f api.Benefit, k int) map[int]int {
	end, paid := f.Wait+f.Term, map[int]int{}
	in := f.Wait <= k && k < end
	if (f.Kind == api.BAssure || f.Kind == api.BBoth) && in {
		paid[k+1]++
	}
	if f.Kind == api.BRising && in {
		paid[k+1] += k - f.Wait + 1
	}
	if f.Kind == api.BFalling && in {
		paid[k+1] += end - k
	}
	if (f.Kind == api.BEndow || f.Kind == api.BBoth) && k >= end {
		paid[end]++
	}
	for t := f.Wait; f.Kind == api.BDue && t <= end-1; t++ {
		if t <= k || t < f.Wait+f.Sure {
			paid[t]++
		}
	}
	for t := f.Wait + 1; f.Kind == api.BLate && t <= end; t++ {
		if t <= k || t <= f.Wait+f.Sure {
			paid[t]++
		}
	}
	return paid
}

// world is a life on a basis: how many of so many die in each year, and v to each time, all by the first of them.
type world struct {
	deaths []*big.Int
	all    *big.Int
	powers []*big.Int
}

// powersAt are v to each time, all by the first of them, at the rates of interest that were asked for already.
var powersAt = map[int][]*big.Int{}

func powersOf(interest int) []*big.Int {
	l := powersAt[interest]
	for t := len(l); t <= latest; t++ {
		up := new(big.Int).Exp(big.NewInt(unit), big.NewInt(int64(t)), nil)
		down := new(big.Int).Exp(big.NewInt(int64(unit+interest)), big.NewInt(int64(latest-t)), nil)
		l = append(l, up.Mul(up, down))
	}
	powersAt[interest] = l
	return l
}

func worldOf(b api.Basis, l api.Life) world {
	w := world{all: big.NewInt(1), powers: powersOf(b.Rate)}
	alive := big.NewInt(1)
	for _, rate := range ratesOf(b.Table, l) {
		for _, d := range w.deaths {
			d.Mul(d, big.NewInt(unit))
		}
		w.deaths = append(w.deaths, new(big.Int).Mul(alive, big.NewInt(int64(rate))))
		w.all = new(big.Int).Mul(w.all, big.NewInt(unit))
		alive = new(big.Int).Mul(alive, big.NewInt(int64(unit-rate)))
	}
	return w
}

// comes is what a benefit comes to on a death in the year k, of payments that are looked at alone.
func (w world) comes(f api.Benefit, k int, looked func(time int) bool) *big.Int {
	sum := new(big.Int)
	for time, amount := range payments(f, k) {
		if looked(time) {
			sum.Add(sum, new(big.Int).Mul(big.NewInt(int64(amount)), w.powers[time]))
		}
	}
	return sum
}

func anyTime(int) bool { return true }

// comesTo is W(k), for each year in which one may die.
func (w world) comesTo(f api.Benefit) []*big.Rat {
	var l []*big.Rat
	for k := range w.deaths {
		l = append(l, new(big.Rat).SetFrac(w.comes(f, k, anyTime), w.powers[0]))
	}
	return l
}

// chance is the chance to die in the year k.
func (w world) chance(k int) *big.Rat { return new(big.Rat).SetFrac(w.deaths[k], w.all) }

// lives is the chance to live t years.
func (w world) lives(t int) *big.Rat {
	sum := new(big.Int)
	for k := t; k < len(w.deaths); k++ {
		sum.Add(sum, w.deaths[k])
	}
	return new(big.Rat).SetFrac(sum, w.all)
}

// value is the mean of W(k).
func (w world) value(f api.Benefit) *big.Rat { return w.later(f, 0, anyTime) }

// still is what is still to come at the time t.
func (w world) still(f api.Benefit, t int) *big.Rat {
	return w.later(f, t, func(time int) bool { return time > t || f.Kind == api.BDue && time == t })
}

// later is the mean of what is looked at, over all years from t on, worth at the time t.
func (w world) later(f api.Benefit, t int, looked func(time int) bool) *big.Rat {
	sum, alive := new(big.Int), new(big.Int)
	for k := t; k < len(w.deaths); k++ {
		sum.Add(sum, new(big.Int).Mul(w.deaths[k], w.comes(f, k, looked)))
		alive.Add(alive, w.deaths[k])
	}
	return new(big.Rat).SetFrac(sum, alive.Mul(alive, w.powers[t]))
}

// spread is the mean of the squares of W(k), less the square of the value.
func (w world) spread(f api.Benefit) *big.Rat {
	squares := new(big.Int)
	for k, d := range w.deaths {
		comes := w.comes(f, k, anyTime)
		squares.Add(squares, comes.Mul(comes, comes).Mul(comes, d))
	}
	by := new(big.Int).Mul(w.powers[0], w.powers[0])
	value := w.value(f)
	return minus(new(big.Rat).SetFrac(squares, by.Mul(by, w.all)), times(value, value))
}

// atMost is the chance that what it comes to is at most most.
func (w world) atMost(comes []*big.Rat, most *big.Rat) *big.Rat {
	sum := new(big.Int)
	for k, d := range w.deaths {
		if comes[k].Cmp(most) <= 0 {
			sum.Add(sum, d)
		}
	}
	return new(big.Rat).SetFrac(sum, w.all)
}
