package interest_test

import (
	"fmt"
	"math/big"
	"testing"

	"tontine/api"
	"tontine/interest"
)

// annuity is one of the three calls, and what it pays at the time k: at the ends of years, and due.
type annuity struct {
	name    string
	call    func(rate, years int, due bool) (api.Ratio, api.Errno)
	ends    func(years, k int) int
	dueEach func(years, k int) int
}

func annuities() []annuity {
	return []annuity{
		{"Certain", interest.Certain, func(years, k int) int { return 1 }, func(years, k int) int { return 1 }},
		{"Rising", interest.Rising, func(years, k int) int { return k }, func(years, k int) int { return k + 1 }},
		{"Falling", interest.Falling, func(years, k int) int { return years + 1 - k }, func(years, k int) int { return years - k }},
	}
}

// 8.2: the sums, payment by payment.
func TestAnnuities(t *testing.T) {
	for _, a := range annuities() {
		for _, rate := range rates {
			for _, years := range spans {
				ends, due := new(big.Rat), new(big.Rat)
				for k := range years {
					ends.Add(ends, times(whole(a.ends(years, k+1)), power(up(rate), -k-1)))
					due.Add(due, times(whole(a.dueEach(years, k)), power(up(rate), -k)))
				}
				what := fmt.Sprint(a.name, " ", rate, " ", years)
				want(t, what, tell(a.call(rate, years, false)), ends.String())
				want(t, what+", due", tell(a.call(rate, years, true)), due.String())
			}
		}
	}
}

// 8.7: due is 1 + i times as much; 1 - v^n is i times Certain; Rising and Falling together are n + 1 times Certain.
func TestAnnuitiesTogether(t *testing.T) {
	r := random(87)
	for range 40 {
		rate, years := anyRate(r), r.Intn(longest+1)
		what := fmt.Sprint(rate, " ", years)
		certain, _ := interest.Certain(rate, years, false)
		due, _ := interest.Certain(rate, years, true)
		want(t, "due "+what, toBig(due).String(), times(toBig(certain), up(rate)).String())
		discounted, _ := interest.Discounted(rate, years)
		want(t, "1 - v^n "+what, plus(whole(1), minus(toBig(discounted))).String(), times(rateOf(rate), toBig(certain)).String())
		for _, isDue := range []bool{false, true} {
			rising, _ := interest.Rising(rate, years, isDue)
			falling, _ := interest.Falling(rate, years, isDue)
			one, _ := interest.Certain(rate, years, isDue)
			want(t, "both "+what, plus(toBig(rising), toBig(falling)).String(), times(whole(years+1), toBig(one)).String())
		}
	}
}

// 8.2: no years are worth nothing; what is out of its range.
func TestAnnuitiesAtEdges(t *testing.T) {
	for _, a := range annuities() {
		for _, due := range []bool{false, true} {
			for _, rate := range rates {
				want(t, a.name+" of no years", tell(a.call(rate, 0, due)), "0/1")
			}
			for _, rate := range noRates {
				for _, years := range append(spans, noYears...) {
					want(t, fmt.Sprint(a.name, " ", rate), tell(a.call(rate, years, due)), api.ErrRange.Error())
				}
			}
			for _, years := range noYears {
				want(t, fmt.Sprint(a.name, " of years ", years), tell(a.call(0, years, due)), api.ErrRange.Error())
			}
		}
	}
	want(t, "Rising, due", tell(interest.Rising(0, longest, true)), "8515/1")
	want(t, "Falling of one year, due", tell(interest.Falling(-unit+1, 1, true)), "1/1")
	want(t, "Certain of one year", tell(interest.Certain(-unit+1, 1, false)), "10000000/1")
}
