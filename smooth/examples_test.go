package smooth_test

import (
	"testing"

	"tontine/api"
	"tontine/smooth"
)

// The chapter's Examples 1 to 4.

func TestExample1(t *testing.T) {
	want(t, "Crude", tellList(smooth.Crude(ints(1, 0), ints(10, 0))), "1/10 0/1")
	want(t, "Differences", tellList(smooth.Differences(list("1 4 9 16"), 2)), "2/1 2/1")
}

func TestExample2(t *testing.T) {
	seen, weights := list("0 1 0"), ints(1, 1, 1)
	g, e := smooth.Graduate(seen, weights, 2, 1)
	want(t, "Graduate", tellList(g, e), "2/7 3/7 2/7")
	want(t, "Measure", tellTwo(smooth.Measure(seen, weights, 2, g)), "24/49 4/49")
	want(t, "Moment 0", tell(smooth.Moment(seen, weights, g, 0)), "0/1")
	want(t, "Moment 1", tell(smooth.Moment(seen, weights, g, 1)), "0/1")
}

func TestExample3(t *testing.T) {
	want(t, "Graduate", tellList(smooth.Graduate(list("5 5"), ints(1, 1), 2, 9)), "5/1 5/1")
	want(t, "Graduate", tellList(smooth.Graduate(list("1 2 3"), ints(1, 0, 0), 2, 1)), refused(api.ErrSingular))
	want(t, "Graduate", tellList(smooth.Graduate(list("0 7 2"), ints(1, 0, 1), 2, 1)), "0/1 1/1 2/1")
}

func TestExample4(t *testing.T) {
	want(t, "Table", tellTable(smooth.Table("t", 60, list("1/10 1/2"))), "t 60 [1000000 10000000] []")
}
