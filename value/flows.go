package value

import "tontine/api"

// Flows is the payments of a benefit on a death in the year k, by rising times (13.2).
func Flows(f api.Benefit, k int) ([]api.Flow, api.Errno) {
	if e := Check(f); e != api.OK {
		return nil, e
	}
	if k < 0 || k > api.MaxYears {
		return nil, api.ErrRange
	}
	var flows []api.Flow
	add := func(time, amount int) {
		if amount > 0 {
			flows = append(flows, api.Flow{Time: time, Amount: amount})
		}
	}
	for _, t := range sureTimes(f) {
		add(t, 1)
	}
	pays, _ := kindOf(f.Kind)
	rest := unsure(f)
	for lived := range k { // no kind pays at both a year's end and the next one's beginning
		add(lived, pays.now(rest, lived))
		add(lived+1, pays.then(rest, lived))
	}
	add(k, pays.now(rest, k))
	add(k+1, pays.dead(rest, k))
	return flows, api.OK
}
