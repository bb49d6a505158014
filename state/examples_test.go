package state_test

import (
	"testing"

	"tontine/api"
	"tontine/state"
)

// The chapter's Examples 1 to 3.

func TestExample1(t *testing.T) {
	want(t, "Move", tellRatioRows(state.Move(sample(1), 0, 1)), "4/5 1/10 1/10; 1/2 3/10 1/5; 0/1 0/1 1/1")
	want(t, "Chance", tellRatios(state.Chance(sample(1), 0, 1)), "4/5 1/10 1/10")
	rows, e := state.Move(sample(2), 0, 2)
	want(t, "Move, two years", tellRatioRows(rows[:1], e), "69/100 11/100 1/5")
	want(t, "First", tellRatios(state.First(sample(2), 0, 2)), "0/1 1/10 1/10")
}

func TestExample2(t *testing.T) {
	p := ones(sample(2), 1, 2)
	for y := range p.Stay {
		p.Stay[y][1] = 100
	}
	want(t, "Values", tellRatioRows(state.Values(sample(1), 0, api.Stays{Stay: p.Stay[:1], Move: p.Move[:1]})), "0/1 100/1 0/1; 0/1 0/1 0/1")
	want(t, "Values, two years", tellRatioRows(state.Values(sample(2), 0, p)), "10/1 130/1 0/1; 0/1 100/1 0/1; 0/1 0/1 0/1")
}

func TestExample3(t *testing.T) {
	want(t, "Lump", tellChain(state.Lump(sample(1), []int{0, 0, 1})), refused(api.ErrChain))
	c := sample(1)
	c.Steps[0][1] = []int{5000000, 4000000, 1000000}
	want(t, "Lump, with 0.1 in both rows", tellChain(state.Lump(c, []int{0, 0, 1})), "{2 [[[9000000 1000000] [0 10000000]]]}")
	want(t, "OfTable", tellChain(state.OfTable(ages(), api.Life{Entry: 60})),
		"{2 [[[9000000 1000000] [0 10000000]] [[8000000 2000000] [0 10000000]] [[5000000 5000000] [0 10000000]] [[0 10000000] [0 10000000]]]}")
}
