// Package coming is what the layers share that go over the years which a life has still to come.
package coming

import (
	"tontine/api"
	"tontine/table"
)

// Rates is the rates of a life in 0, 1, 2 .. years, as many as there are, one at least; or what is wrong with the basis, or with the life.
func Rates(b api.Basis, l api.Life) ([]int, api.Errno) {
	if e := table.Basis(b); e != api.OK {
		return nil, e
	}
	if _, e := table.Rate(b.Table, l, 0); e != api.OK { // a life of the table has that rate at least
		return nil, e
	}
	last, _ := table.Last(b.Table)
	rates := make([]int, last-l.Entry-l.Years+1)
	for n := range len(rates) {
		rates[n], _ = table.Rate(b.Table, l, n)
	}
	return rates, api.OK
}
