package joint

import (
	"slices"

	"tontine/api"
	"tontine/whole"
)

// group is a party at a time: each life's chance to be alive then, as alive of all, which is Unit to the years that have gone by. Common divisors are looked for once, in what is answered.
type group struct {
	alive []whole.Nat
	all   whole.Nat
}

// groups is a party with these rates at the times 0, 1, 2 .. and years.
func groups(rates [][]int, years int) []group {
	list := make([]group, years+1)
	list[0] = group{slices.Repeat([]whole.Nat{natural(1)}, len(rates)), natural(1)}
	for n := range years {
		list[n+1] = list[n].aYearLater(rates, n)
	}
	return list
}

// aYearLater is the group behind the year n.
func (g group) aYearLater(rates [][]int, n int) group {
	alive := make([]whole.Nat, len(rates))
	for i, l := range rates {
		if n < len(l) { // else the last one has died
			alive[i] = g.alive[i].Mul(natural(api.Unit - l[n]))
		}
	}
	return group{alive, g.all.Mul(natural(api.Unit))}
}

// dead is each life's chance not to be alive, likewise.
func (g group) dead() []whole.Nat {
	l := make([]whole.Nat, len(g.alive))
	for i, alive := range g.alive {
		l[i] = g.all.Sub(alive)
	}
	return l
}

// numbers is the chances that just 0, 1, 2 .. live: each of all to the number of lives.
func (g group) numbers() []whole.Nat { return byNumber(g.alive, g.dead()) }

// sums is, for 0, 1, 2 .., the sum, over all choices of so many lives, of the chance that these live, whatever the others do: likewise.
func (g group) sums() []whole.Nat {
	return byNumber(g.alive, slices.Repeat([]whole.Nat{g.all}, len(g.alive)))
}

// least is the chance that so many live at least: likewise.
func (g group) least(many int) whole.Nat {
	var sum whole.Nat
	for _, chance := range g.numbers()[many:] {
		sum = sum.Add(chance)
	}
	return sum
}

// by is what all these are parts of.
func (g group) by() whole.Nat { return g.all.Pow(len(g.alive)) }
