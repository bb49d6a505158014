package value_test

import (
	"testing"

	"tontine/api"
	"tontine/span"
	"tontine/value"
)

// The chapter's Examples 1 to 3.

func TestExample1(t *testing.T) {
	b, l := sample()
	want(t, "BDue", tellRatio(value.Exact(b, l, api.Benefit{Kind: api.BDue, Term: 2})), "77/41")
	want(t, "BAssure", tellRatio(value.Exact(b, l, api.Benefit{Kind: api.BAssure, Term: 1})), "4/41")
	want(t, "BEndow", tellRatio(value.Exact(b, l, api.Benefit{Kind: api.BEndow, Term: 2})), "1152/1681")
}

func TestExample2(t *testing.T) {
	want(t, "BDue", tellFlows(value.Flows(api.Benefit{Kind: api.BDue, Wait: 1, Term: 3, Sure: 1}, 0)), "1 at 1")
	want(t, "BRising", tellFlows(value.Flows(api.Benefit{Kind: api.BRising, Wait: 1, Term: 5}, 3)), "3 at 4")
}

func TestExample3(t *testing.T) {
	b, l := sample()
	want(t, "Spread", tellRatio(value.Spread(b, l, api.Benefit{Kind: api.BDue, Term: 1})), "0/1")
	wanted := minus(rat(77, 41), times(rat(1, 4), minus(rat(1, 1), rat(1152, 1681))))
	want(t, "Parts", tellRatio(value.Parts(b, l, api.Benefit{Kind: api.BDue, Term: 2}, 2)), wanted.String())
}

// DOC.md's example 2 of the whole: what value tells.
func TestExampleOfTheWhole(t *testing.T) {
	b, l := sample()
	f := api.Benefit{Kind: api.BDue, Term: 2}
	want(t, "Float", tellFloat(value.Float(b, l, f)), bits(1.8780487804878048))
	s, _ := value.Span(b, l, f)
	text, e := span.Text(s)
	want(t, "Span", told(text, e, false), "[1.8780487804878048, 1.878048780487805]")
}
