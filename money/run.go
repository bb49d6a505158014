package money

import (
	"tontine/api"
	"tontine/exact"
)

// Cascade is a run of amounts whose sums are the exact sums, rounded (6.3).
func Cascade(l []api.Ratio, way int) ([]int, api.Errno) {
	parts, e := exact.ReadAll(l, api.MaxItems)
	if e != api.OK {
		return nil, e
	}
	if !exact.IsWay(way) {
		return nil, api.ErrRange
	}
	amounts := make([]int, len(parts))
	sum, ahead := exact.OfInt(0), 0
	for i := range len(parts) {
		sum = sum.Plus(parts[i])
		if sum.IsLong() {
			return nil, api.ErrLong
		}
		upTo, e := pennies(sum.Round(way))
		if e != api.OK {
			return nil, e
		}
		if amounts[i], e = asAmount(upTo - ahead); e != api.OK {
			return nil, e
		}
		ahead = upTo
	}
	return amounts, api.OK
}

// Run pays exact numbers in pennies, and carries what is left to the next payment.
type Run struct {
	way   int
	paid  int
	carry exact.Fraction
}

// New is a run of which nothing is paid, and nothing carried (6.4).
func New(way int) (*Run, api.Errno) {
	if !exact.IsWay(way) {
		return nil, api.ErrRange
	}
	return &Run{way: way, carry: exact.OfInt(0)}, api.OK
}

// Pay is what is paid of r and what is carried; the rest is carried from then on (6.4).
func (x *Run) Pay(r api.Ratio) (int, api.Errno) {
	f, e := exact.Read(r)
	if e != api.OK {
		return 0, e
	}
	due := x.carry.Plus(f) // it may be too long, though what is left of it is not
	n, e := pennies(due.Round(x.way))
	if e != api.OK {
		return 0, e
	}
	paid, e := asAmount(x.paid + n)
	if e != api.OK {
		return 0, e
	}
	carry := due.Plus(exact.OfInt(-n))
	if carry.IsLong() {
		return 0, api.ErrLong
	}
	x.paid, x.carry = paid, carry
	return n, api.OK
}

// Carry is what is carried (6.4).
func (x *Run) Carry() api.Ratio {
	r, _ := x.carry.Ratio() // Pay carries nothing that is too long
	return r
}

// Paid is what was paid in all (6.4).
func (x *Run) Paid() int { return x.paid }
