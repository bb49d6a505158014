package trial_test

import (
	"testing"

	"tontine/api"
	"tontine/trial"
)

// The chapter's Examples 1 to 3.

func TestExample1(t *testing.T) {
	l := list(cell(100, 12, 1000000), cell(100, 9, 1000000))
	want(t, "Expected", tellLists(trial.Expected(l)), "10/1 10/1; 9/1 9/1")
	want(t, "Square", tellCounted(trial.Square(l)), "5/9 of 2")
	want(t, "Signs", tellSigns(trial.Signs(l)), "1 1 0")
	want(t, "Total", tellTwo(trial.Total(l)), "1/1 1/18")
}

func TestExample2(t *testing.T) {
	want(t, "Square", tellCounted(trial.Square(list(cell(10, 1, 0)))), refused(api.ErrNever))
	want(t, "Square", tellCounted(trial.Square(list(cell(10, 0, 0)))), "0/1 of 0")
}

func TestExample3(t *testing.T) {
	want(t, "Ways", tellText(trial.Ways(5, 2)), "10")
	want(t, "Binomial", tell(trial.Binomial(4, 5000000, 1)), "5/16")
	want(t, "Quantile", tellInt(trial.Quantile(4, 5000000, of("1/2"))), "2")
	want(t, "Runs", tellRuns(trial.Runs(signed("++-+-"))), "2 9/10")
}
