package column_test

import (
	"testing"

	"tontine/api"
	"tontine/column"
	"tontine/span"
)

// The chapter's Examples 1 and 2.

func TestExample1(t *testing.T) {
	b, l := sample()
	x, e := column.Exact(b, l, 0)
	want(t, "D(0) and C(0)", told(x.D.Num+"/"+x.D.Den+" "+x.C.Num+"/"+x.C.Den, e, false), "1/1 4/41")
	x, e = column.Exact(b, l, 1)
	want(t, "D(1)", told(x.D.Num+"/"+x.D.Den, e, false), "36/41")
	want(t, "Exact(4)", tellColumn(column.Exact(b, l, 4)), "D 0/1; N 0/1; S 0/1; C 0/1; M 0/1; R 0/1")
	d, c := "23040/68921", "921600/2825761" // (40/41)^3 9/25, (40/41)^4 9/25
	want(t, "Exact(3)", tellColumn(column.Exact(b, l, 3)), "D "+d+"; N "+d+"; S "+d+"; C "+c+"; M "+c+"; R "+c)
}

func TestExample2(t *testing.T) {
	b, l := sample()
	due, endow := api.Benefit{Kind: api.BDue, Term: 2}, api.Benefit{Kind: api.BEndow, Term: 2}
	want(t, "BDue", tellFloat(column.Value(b, l, due)), bits(1.878048780487805))
	want(t, "BDue, exactly", exactWorth(b, l, due).String(), "77/41")
	want(t, "BEndow, exactly", exactWorth(b, l, endow).String(), "1152/1681")
	x, _ := column.Exact(b, l, 2)
	want(t, "D(2)", x.D.Num+"/"+x.D.Den, "1152/1681")
	for _, f := range []api.Benefit{due, endow} {
		s, e := column.Within(b, l, f)
		if e != api.OK || !isIn(exactWorth(b, l, f), s) || s.Hi-s.Lo > 1e-14 {
			t.Error("Within", f, s, e)
		}
	}
}

// DOC.md's example 2 of the whole: what commute tells.
func TestExampleOfTheWhole(t *testing.T) {
	b, l := sample()
	s, _ := column.Within(b, l, api.Benefit{Kind: api.BDue, Term: 2})
	text, e := span.Text(s)
	want(t, "Within", told(text, e, false), "[1.8780487804878034, 1.8780487804878063]")
}
