package joint

import (
	"tontine/api"
	"tontine/exact"
)

// Alive is the chances that of a party just 0, 1, 2 .. live so many years (14.2).
func Alive(t api.Table, party []api.Life, years int) ([]api.Ratio, api.Errno) {
	g, e := after(t, party, years)
	if e != api.OK {
		return nil, e
	}
	return exact.WriteParts(g.numbers(), g.by())
}

// Least is the chance that many of a party live so many years, or more (14.2).
func Least(t api.Table, party []api.Life, many, years int) (api.Ratio, api.Errno) {
	g, e := after(t, party, years)
	switch {
	case e != api.OK:
		return api.Ratio{}, e
	case many < 0 || many > len(party):
		return api.Ratio{}, api.ErrRange // as of wrong years, so it makes no difference that these were looked at first
	}
	return exact.WriteLowest(false, g.least(many), g.by())
}

// Sums is, for 0, 1, 2 .. of a party, the sum, over all choices of so many, of the chance that these live so many years (14.2).
func Sums(t api.Table, party []api.Life, years int) ([]api.Ratio, api.Errno) {
	g, e := after(t, party, years)
	if e != api.OK {
		return nil, e
	}
	return exact.WriteParts(g.sums(), g.by())
}

// after is a party when so many years have gone by; or what is wrong.
func after(t api.Table, party []api.Life, years int) (group, api.Errno) {
	rates, e := ratesOf(api.Basis{Table: t}, party)
	switch {
	case e != api.OK:
		return group{}, e
	case !isYears(years):
		return group{}, api.ErrRange
	}
	return groups(rates, years)[years], api.OK
}
