package coming

import (
	"fmt"
	"testing"

	"tontine/api"
)

// sample is a table with two members in Select; each rate tells where it stands.
func sample() api.Table {
	return api.Table{Name: "t", First: 60, Rates: []int{1, 2, 3, api.Unit}, Select: [][]int{{10, 20, 30, api.Unit}, {11, 21, api.Unit}}}
}

func TestRates(t *testing.T) {
	full := make([]int, api.MaxAge+1)
	full[api.MaxAge] = api.Unit
	for _, c := range []struct {
		t      api.Table
		l      api.Life
		wanted []int
	}{
		{sample(), api.Life{Entry: 60}, []int{10, 11, 3, api.Unit}},
		{sample(), api.Life{Entry: 60, Years: 1}, []int{11, 3, api.Unit}},
		{sample(), api.Life{Entry: 60, Years: 2}, []int{3, api.Unit}},
		{sample(), api.Life{Entry: 61}, []int{20, 21, api.Unit}},
		{sample(), api.Life{Entry: 62}, []int{30, api.Unit}},
		{sample(), api.Life{Entry: 63}, []int{api.Unit}},
		{sample(), api.Life{Entry: 60, Years: 3}, []int{api.Unit}},
		{api.Table{Name: "t", Rates: full}, api.Life{}, full},
		{api.Table{Name: "t", Rates: full}, api.Life{Entry: 100, Years: 29}, []int{0, api.Unit}},
	} {
		got, e := Rates(api.Basis{Table: c.t}, c.l)
		if fmt.Sprint(got) != fmt.Sprint(c.wanted) || e != api.OK {
			t.Errorf("%v: %v, %v, want %v", c.l, got, e, c.wanted)
		}
	}
}

// The basis's error comes ahead of the life's.
func TestNoRates(t *testing.T) {
	for _, c := range []struct {
		b api.Basis
		l api.Life
		e api.Errno
	}{
		{api.Basis{}, api.Life{Entry: 60}, api.ErrForm},
		{api.Basis{Table: sample(), Rate: -1}, api.Life{Entry: -1}, api.ErrRange},
		{api.Basis{Table: sample(), Rate: api.MaxRate + 1}, api.Life{Entry: 60}, api.ErrRange},
		{api.Basis{Table: sample()}, api.Life{Entry: 59}, api.ErrAge},
		{api.Basis{Table: sample()}, api.Life{Entry: 64}, api.ErrAge},
		{api.Basis{Table: sample()}, api.Life{Entry: 60, Years: 4}, api.ErrAge},
		{api.Basis{Table: sample()}, api.Life{Entry: 60, Years: -1}, api.ErrAge},
	} {
		if got, e := Rates(c.b, c.l); got != nil || e != c.e {
			t.Errorf("%v: %v, %v, want %v", c.l, got, e, c.e)
		}
	}
}

// What is answered is no part of the table.
func TestRatesAreNew(t *testing.T) {
	b := api.Basis{Table: sample()}
	l, _ := Rates(b, api.Life{Entry: 60})
	for n := range l {
		l[n] = -7
	}
	if fmt.Sprint(b.Table) != fmt.Sprint(sample()) {
		t.Error("the table is another one:", b.Table)
	}
}
