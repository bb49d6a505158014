package interest_test

import (
	"testing"

	"tontine/api"
	"tontine/interest"
)

// The chapter's Examples 1 to 5.

func TestExample1(t *testing.T) {
	want(t, "Grown", tell(interest.Grown(500000, 2)), "441/400")
	exact := plus(power(up(100000), 12), whole(-1))
	want(t, "Effective", tell(interest.Effective(1200000, 12)), exact.String())
	want(t, "Nominal", tellSpan(interest.Nominal(2100000, 2)), bits(0.19999999999999998, 0.2))
}

func TestExample2(t *testing.T) {
	want(t, "Certain", tell(interest.Certain(1000000, 2, false)), "210/121")
	want(t, "Certain, due", tell(interest.Certain(1000000, 2, true)), "21/11")
	want(t, "Rising", tell(interest.Rising(0, 3, false)), "6/1")
	want(t, "Duration", tellTwo(interest.Duration(flows("1:100 2:100"), 0)), "3/2 5/2")
	want(t, "Immune", tellTwo(interest.Immune(0, 1, 1)), "1/2 1/2")
}

func TestExample3(t *testing.T) {
	want(t, "Yield", tellSpan(interest.Yield(flows("0:-100 1:110"))), bits(0.09999999999999999, 0.1))
	want(t, "Yield", tellSpan(interest.Yield(flows("0:-100 1:100"))), bits(0, 0))
	want(t, "Yield", tellSpan(interest.Yield(flows("0:1 1:1"))), api.ErrSigns.Error())
}

func TestExample4(t *testing.T) {
	want(t, "Factors", tellList(interest.Factors([]int{1000000, 2000000})), "10/11 25/36")
	want(t, "Forwards", tellList(interest.Forwards([]int{1000000, 2000000})), "1/10 17/55")
	want(t, "Strip", tellList(interest.Strip([]int{1000000})), "10/11")
}

func TestExample5(t *testing.T) {
	want(t, "Loan", tellRows(interest.Loan(10000, 1000000, 2, api.RoundHalfEven)), "[{1 1000 5762 5238} {2 524 5762 0}]")
	for _, way := range ways {
		want(t, "Loan", tellRows(interest.Loan(1, 0, 3, way)), "[{1 0 1 0} {2 0 0 0} {3 0 0 0}]")
	}
}
