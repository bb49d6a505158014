package column

import (
	"tontine/api"
	"tontine/reckon"
)

// columns are the six columns of one kind of numbers, from the time 0 on.
type columns[T any] struct {
	d, n, s, c, m, r []T
}

// discounted is the columns of a life with these rates, of which alive live 0, 1, 2 .. years more, at a yearly rate of interest.
func discounted[T any](k reckon.Numbers[T], interest int, rates []int, alive []T) columns[T] {
	last := len(rates)
	d, c := make([]T, last+1), make([]T, last+1) // the last one of c stays nought
	v, power := k.Of(api.Unit, api.Unit+interest), k.Of(1, 1)
	for n := range last {
		q := k.Of(rates[n], api.Unit)
		d[n] = k.Times(alive[n], power)
		power = k.Times(power, v)
		c[n] = k.Times(k.Times(alive[n], q), power)
	}
	d[last] = k.Times(alive[last], power)
	return summed(d, c, k.Plus)
}

// summed is all columns, of those that are not sums.
func summed[T any](d, c []T, plus func(x, y T) T) columns[T] {
	n, m := sums(d, plus), sums(c, plus)
	return columns[T]{d: d, n: n, s: sums(n, plus), c: c, m: m, r: sums(m, plus)}
}

// sums is what a column, which is not empty, comes to from each of its lines to the last one.
func sums[T any](column []T, plus func(x, y T) T) []T {
	last := len(column) - 1
	l := make([]T, last+1)
	l[last] = column[last]
	for back := range last {
		n := last - 1 - back
		l[n] = plus(l[n+1], column[n])
	}
	return l
}
