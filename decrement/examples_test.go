package decrement_test

import (
	"testing"

	"tontine/api"
	"tontine/decrement"
)

// The chapter's Examples 1 to 3.

func TestExample1(t *testing.T) {
	want(t, "Stay", tellRatio(decrement.Stay(sample(), 30, 1)), "18/25")
	want(t, "Dependent", tellRatios(decrement.Dependent(sample(), 30)), "9/100 19/100")
	want(t, "Dependent of three", tellRatios(decrement.Dependent(halves(), 30)), "7/24 7/24 7/24")
	want(t, "Stay of three", tellRatio(decrement.Stay(halves(), 30, 1)), "1/8")
}

func TestExample2(t *testing.T) {
	want(t, "Within", tellRatios(decrement.Within(sample(), 30, api.Ratio{Num: "1", Den: "2"})), "19/400 39/400")
}

func TestExample3(t *testing.T) {
	l := []api.Leave{{Live: 100, Gone: []int{1000, 0}}}
	want(t, "Worth", tellRatios(decrement.Worth(sample(), 0, 30, l)), "162/1 0/1")
}
