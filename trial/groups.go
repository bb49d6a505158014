package trial

import "tontine/api"

// Groups is cells put together, so that of each group at least so many deaths were expected (11.3).
func Groups(l []api.Cell, least int) ([]api.Group, api.Errno) {
	if e := Check(l); e != api.OK {
		return nil, e
	}
	if least < 0 || least > mostExposed {
		return nil, api.ErrRange
	}
	ends := groupEnds(l, least*api.Unit)
	groups, from := make([]api.Group, len(ends)), 0
	for i, end := range ends {
		all := together(l[from:end])
		groups[i] = api.Group{From: from, To: end - 1, Deaths: all.deaths, Expected: all.expectation(), Spread: all.variance()}
		from = end
	}
	return groups, api.OK
}

// groupEnds is the places behind the groups' last cells; least is in ten-millionths.
func groupEnds(l []api.Cell, least int) []int {
	if len(l) == 0 {
		return nil
	}
	var ends []int
	expected := 0
	for i, c := range l {
		expected += c.Exposed * c.Rate
		if expected >= least {
			ends, expected = append(ends, i+1), 0
		}
	}
	if len(ends) == 0 {
		return []int{len(l)}
	}
	ends[len(ends)-1] = len(l) // what is left has not as much
	return ends
}
