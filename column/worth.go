package column

import (
	"tontine/api"
	"tontine/reckon"
)

// mayBe tells whether a benefit may be here: its kinds are numbered without a gap.
func mayBe(f api.Benefit) bool {
	return f.Kind >= api.BAssure && f.Kind <= api.BFalling &&
		f.Wait >= 0 && f.Wait <= api.MaxYears && f.Term >= 1 && f.Term <= api.MaxYears && f.Sure == 0
}

// worth is what a benefit that may be here is worth by columns, each operation as the chapter's table has it.
func worth[T any](k reckon.Numbers[T], c columns[T], f api.Benefit) T {
	wait, term, end := f.Wait, k.Of(f.Term, 1), f.Wait+f.Term
	between := func(column []T, from, to int) T { return k.Minus(at(column, from), at(column, to)) }
	var value T
	switch f.Kind {
	case api.BDue:
		value = between(c.n, wait, end)
	case api.BLate:
		value = between(c.n, wait+1, end+1)
	case api.BAssure:
		value = between(c.m, wait, end)
	case api.BEndow:
		value = at(c.d, end)
	case api.BBoth:
		value = k.Plus(between(c.m, wait, end), at(c.d, end))
	case api.BRising:
		value = k.Minus(between(c.r, wait, end), k.Times(term, at(c.m, end)))
	case api.BFalling:
		value = k.Minus(k.Times(term, at(c.m, wait)), between(c.r, wait+1, end+1))
	}
	return k.By(value, c.d[0])
}

// at is a column's line, or nought behind its last one.
func at[T any](column []T, n int) T {
	if n < len(column) {
		return column[n]
	}
	var nought T
	return nought
}
