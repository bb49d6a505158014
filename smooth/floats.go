package smooth

import (
	"tontine/api"
	"tontine/float"
)

// Floats is the smooth numbers nearest to those that were seen, by a recursion in floats (10.3).
func Floats(seen []float64, weights []int, order, smooth int) ([]float64, api.Errno) {
	if len(seen) > api.MaxPoints {
		return nil, api.ErrLong
	}
	for _, u := range seen {
		if kind := float.Split(u).Kind; kind == api.FloatInfinite || kind == api.FloatNone {
			return nil, api.ErrNotFinite
		}
	}
	q, e := newEquations(len(seen), weights, order, smooth)
	if e != api.OK {
		return nil, e
	}
	f := newFactoring(q, seen)
	for i := range len(seen) {
		if !f.next(i) {
			return nil, api.ErrSingular
		}
	}
	return f.backwards(), api.OK
}

// factoring is the recursion in floats, up to some row: A is L times D times L's mirror image, L having ones on its diagonal, which are not kept, and noughts but at most the order below it. All operations are written as 10.3 has them; a product is rounded ahead of its being taken away, which the conversions make sure of.
type factoring struct {
	equations
	seen  []float64
	below [][]float64 // below[i][k] is L(i, k)
	d, y  []float64
}

func newFactoring(q equations, seen []float64) factoring {
	n := len(seen)
	return factoring{q, seen, make([][]float64, n), make([]float64, n), make([]float64, n)}
}

// next reckons the row i of L, D and Y, behind all rows ahead of it; false, if its divisor is not above nought.
func (f factoring) next(i int) bool {
	first := max(0, i-f.order)
	v, l := make([]float64, i), make([]float64, i)
	for at := range i - first {
		j := first + at
		v[j] = float64(f.at(i, j))
		for before := range at {
			k := first + before
			v[j] -= float64(v[k] * f.below[j][k])
		}
		l[j] = v[j] / f.d[j]
	}
	f.below[i] = l
	f.d[i] = float64(f.at(i, i))
	f.y[i] = float64(float64(f.weights[i]) * f.seen[i])
	for at := range i - first {
		k := first + at
		f.d[i] -= float64(v[k] * l[k])
		f.y[i] -= float64(l[k] * f.y[k])
	}
	return f.d[i] > 0
}

// backwards is the graduation, from the last number back.
func (f factoring) backwards() []float64 {
	n := len(f.seen)
	g := make([]float64, n)
	for back := range n {
		i := n - 1 - back
		g[i] = f.y[i] / f.d[i]
		for at := range min(f.order, back) {
			k := i + 1 + at
			g[i] -= float64(f.below[k][i] * g[k])
		}
	}
	return g
}
