package smooth

import (
	"slices"

	"tontine/exact"
	"tontine/whole"
)

// solve is the x of A x = sides, which are whole numbers: as whole numbers, and what each of them is to be divided by, A's determinant.
func (q equations) solve(sides []exact.Fraction) ([]exact.Fraction, whole.Nat) {
	r := reduction{q.order, q.rows(), slices.Clone(sides)}
	r.run()
	return r.unknowns()
}

// rows is A from its diagonal on: A(i, i), A(i, i + 1) and so on. A is symmetric.
func (q equations) rows() [][]exact.Fraction {
	n := len(q.weights)
	rows := make([][]exact.Fraction, n)
	for i := range n {
		rows[i] = make([]exact.Fraction, min(q.order+1, n-i))
		for d := range len(rows[i]) {
			rows[i][d] = exact.OfInt(q.at(i, i+d))
		}
	}
	return rows
}

// reduction is equations whose unknowns are thrown out of the later ones, from the first unknown on, by Bareiss' way: what is left of them behind each step are minors of A (and of the sides), so that all numbers are whole, and divide as they should; no common divisors need be looked for, and no number is longer than it must be.
type reduction struct {
	order int
	rows  [][]exact.Fraction // from the diagonal on, as many as the order and one more
	sides []exact.Fraction
}

func (r reduction) run() {
	ahead := exact.OfInt(1)
	for k := range len(r.rows) {
		r.drawIn(k+r.order, ahead)
		r.throwOut(k, ahead)
		ahead = r.rows[k][0]
	}
}

// drawIn makes up for what a column was not told while no unknown that was thrown out had to do with it: it is multiplied by the minor up to there.
func (r reduction) drawIn(column int, minor exact.Fraction) {
	if column >= len(r.rows) {
		return
	}
	for d := range r.order + 1 {
		row := r.rows[column-d]
		row[d] = row[d].Times(minor)
	}
	r.sides[column] = r.sides[column].Times(minor)
}

// throwOut throws the unknown k out of those equations behind its own that have it; ahead is the minor without it.
func (r reduction) throwOut(k int, ahead exact.Fraction) {
	row, part := r.rows[k], ahead.Inverse()
	less := func(x, y, z exact.Fraction) exact.Fraction {
		return row[0].Times(x).Plus(y.Times(z).Negated()).Times(part)
	}
	reach := len(row) - 1
	for d := range reach {
		i := k + 1 + d
		for c := range reach - d {
			r.rows[i][c] = less(r.rows[i][c], row[1+d], row[1+d+c])
		}
		r.sides[i] = less(r.sides[i], row[1+d], r.sides[k])
	}
}

// unknowns is the unknowns, from the last one back, times the determinant, which is the last minor.
func (r reduction) unknowns() ([]exact.Fraction, whole.Nat) {
	n := len(r.rows)
	all := r.rows[n-1][0]
	x := make([]exact.Fraction, n)
	for back := range n {
		i := n - 1 - back
		sum := all.Times(r.sides[i])
		for d, entry := range r.rows[i][1:] {
			sum = sum.Plus(entry.Times(x[i+1+d]).Negated())
		}
		x[i] = sum.Times(r.rows[i][0].Inverse())
	}
	return x, all.Num
}
