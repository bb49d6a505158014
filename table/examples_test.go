package table_test

import (
	"testing"

	"tontine/api"
	"tontine/table"
)

// The chapter's Examples 1 to 4.

func TestExample1(t *testing.T) {
	a, l := ages(), api.Life{Entry: 60}
	want(t, "Last", tellInt(table.Last(a)), "63")
	for n, s := range []string{"1/1", "9/10", "18/25", "9/25", "0/1"} {
		want(t, "Survive", tell(table.Survive(a, l, n)), s)
	}
	want(t, "Expect", tell(table.Expect(a, l, 0, 130)), "99/50")
	want(t, "Probable", tellInt(table.Probable(a, l)), "3")
	want(t, "Survive", tell(table.Survive(a, api.Life{Entry: 61, Years: 1}, 1)), "1/2")
	want(t, "Survive", tell(table.Survive(a, api.Life{Entry: 60, Years: 4}, 1)), refused(api.ErrAge))
}

func TestExample2(t *testing.T) {
	a := chosen()
	want(t, "S(1)", tell(table.Survive(a, api.Life{Entry: 60}, 1)), "19/20")
	want(t, "S(2)", tell(table.Survive(a, api.Life{Entry: 60}, 2)), "19/25")
	want(t, "S(1) a year later", tell(table.Survive(a, api.Life{Entry: 60, Years: 1}, 1)), "4/5")
}

func TestExample3(t *testing.T) {
	a, l := ages(), api.Life{Entry: 60}
	want(t, "evenly", tell(table.Within(a, l, 0, of("1/2"), api.DieEvenly)), "19/20")
	want(t, "last", tell(table.Within(a, l, 0, of("1/2"), api.DieLast)), "18/19")
}

func TestExample4(t *testing.T) {
	text := "table t\n60 0.1000000\n61 0.2000000\n62 0.5000000\n63 1.0000000\nend\n"
	want(t, "Text", tellText(table.Text(ages())), text)
	want(t, "Parse", tellParsed(table.Parse(text)), tellTable(ages(), api.OK)+" at 0")
}
