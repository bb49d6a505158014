package interest_test

import (
	"fmt"
	"math"
	"math/big"
	"testing"

	"tontine/api"
	"tontine/interest"
)

// flowCalls are all calls that are given flows, with right rates and times beside them.
func flowCalls() map[string]func(l []api.Flow) string {
	return map[string]func(l []api.Flow) string{
		"Present":  func(l []api.Flow) string { return tell(interest.Present(l, 0, 0)) },
		"Duration": func(l []api.Flow) string { return tellTwo(interest.Duration(l, 0)) },
		"Yield":    func(l []api.Flow) string { return tellSpan(interest.Yield(l)) },
	}
}

// 8.3: Present, by the sum of the Words; 8.7: at T it is the one at 0 times Grown.
func TestPresent(t *testing.T) {
	r := random(83)
	for n := range 60 {
		l, rate, time := anyFlows(r, n%12*12), anyRate(r), r.Intn(longest+1)
		what := fmt.Sprint("Present ", l, " ", rate, " ", time)
		then, e := interest.Present(l, rate, time)
		want(t, what, tell(then, e), worth(l, up(rate), time).String())
		now, _ := interest.Present(l, rate, 0)
		grown, _ := interest.Grown(rate, time)
		want(t, what+" from 0", times(toBig(now), toBig(grown)).String(), toBig(then).String())
	}
	for text, value := range map[string]string{"": "0/1", "0:0": "0/1", "0:0 7:0 130:0": "0/1", "0:1000000000000000": "1000000000000000/1", "0:-7": "-7/1", "1:10 2:-10": "0/1"} {
		want(t, "Present by the rate 0 of "+text, tell(interest.Present(flows(text), 0, 130)), value)
	}
	want(t, "the longest way", tell(interest.Present(flows("130:1"), -unit+1, 0)), power(whole(unit), 130).String())
	want(t, "and back", tell(interest.Present(flows("0:-1"), -unit+1, 130)), minus(power(whole(unit), -130)).String())
}

// 8.3: Duration, by its words: means of Time and of its square; amounts times squares are greater than any int.
func TestDuration(t *testing.T) {
	r := random(830)
	lists := [][]api.Flow{flows("0:5"), flows("130:-1"), flows("129:1000000000000000 130:1000000000000000"), flows("129:1000000000000000 130:-1000000000000000"), flows("0:1 130:-999999999999999")}
	for n := range 60 {
		lists = append(lists, anyFlows(r, n%12*12))
	}
	for _, l := range lists {
		rate := anyRate(r)
		all := worth(l, up(rate), 0)
		wanted := api.ErrZero.Error()
		if all.Sign() != 0 {
			once, twice := new(big.Rat), new(big.Rat)
			for _, f := range l {
				part := times(whole(f.Time), whole(f.Amount), power(up(rate), -f.Time))
				once.Add(once, part)
				twice.Add(twice, times(whole(f.Time), part))
			}
			wanted = by(once, all).String() + " " + by(twice, all).String()
		}
		want(t, fmt.Sprint("Duration ", l, " ", rate), tellTwo(interest.Duration(l, rate)), wanted)
	}
	for _, text := range []string{"", "0:0", "3:0 9:0", "0:-11 1:11", "0:10 1:-11"} {
		rate := 0
		if text == "0:10 1:-11" {
			rate = 1000000
		}
		want(t, "Duration of what is worth nothing: "+text, tellTwo(interest.Duration(flows(text), rate)), api.ErrZero.Error())
	}
}

// 8.3, 8.4: the first flow that may not be: its time ahead of its amount, and flow by flow.
func TestWrongFlows(t *testing.T) {
	wrong := map[string]api.Errno{
		"-1:1": api.ErrFlows, "131:1": api.ErrFlows, "0:1 0:1": api.ErrFlows, "5:1 4:1": api.ErrFlows, "130:1 131:1": api.ErrFlows, "0:-1 1:1 1:0": api.ErrFlows,
		"0:1000000000000001": api.ErrMoney, "0:-1000000000000001": api.ErrMoney, "0:1 130:-1000000000000001": api.ErrMoney,
		"-1:1000000000000001": api.ErrFlows, "131:1000000000000001": api.ErrFlows, "3:1 3:1000000000000001": api.ErrFlows,
		"3:1000000000000001 3:1": api.ErrMoney, "3:1000000000000001 -1:1": api.ErrMoney, "3:1 2:1 4:1000000000000001": api.ErrFlows,
	}
	for name, call := range flowCalls() {
		for text, e := range wrong {
			want(t, name+" of "+text, call(flows(text)), e.Error())
		}
		for _, amount := range noAmounts {
			want(t, name, call([]api.Flow{{Time: 0, Amount: -1}, {Time: 1, Amount: amount}}), api.ErrMoney.Error())
		}
		for _, time := range noYears {
			want(t, name, call([]api.Flow{{Time: time, Amount: -1}}), api.ErrFlows.Error())
		}
	}
}

// 8.3, 8.4: lists that are too long, ahead of all that is wrong in them; of MaxItems flows the times cannot rise.
func TestTooManyFlows(t *testing.T) {
	for name, call := range flowCalls() {
		for _, f := range []api.Flow{{}, {Time: -1}, {Amount: math.MaxInt}} {
			want(t, name, call(repeated(f, api.MaxItems+1)), api.ErrLong.Error())
		}
		want(t, name, call(repeated(api.Flow{}, api.MaxItems)), api.ErrFlows.Error())
		want(t, name, call(repeated(api.Flow{Time: -1}, api.MaxItems)), api.ErrFlows.Error())
		want(t, name, call(repeated(api.Flow{Amount: most + 1}, api.MaxItems)), api.ErrMoney.Error())
	}
}

// 8.3: rates and times out of their range, behind what is wrong with the list, and ahead of ErrZero.
func TestFlowsOutOfRange(t *testing.T) {
	good, refused := flows("0:1 130:1"), api.ErrRange.Error()
	for _, rate := range noRates {
		want(t, "Present", tell(interest.Present(good, rate, 0)), refused)
		want(t, "Present", tell(interest.Present(good, rate, -1)), refused)
		want(t, "Duration", tellTwo(interest.Duration(good, rate)), refused)
		want(t, "Duration of none", tellTwo(interest.Duration(nil, rate)), refused)
	}
	for _, time := range noYears {
		want(t, "Present", tell(interest.Present(good, 0, time)), refused)
	}
	want(t, "Present", tell(interest.Present(flows("-1:0"), -unit, -1)), api.ErrFlows.Error())
	want(t, "Present", tell(interest.Present(flows("0:1000000000000001"), 0, 131)), api.ErrMoney.Error())
	want(t, "Present", tell(interest.Present(repeated(api.Flow{}, api.MaxItems+1), -unit, 0)), api.ErrLong.Error())
	want(t, "Duration", tellTwo(interest.Duration(flows("131:0"), -unit)), api.ErrFlows.Error())
	want(t, "Duration", tellTwo(interest.Duration(flows("0:-1000000000000001"), api.MaxRate+1)), api.ErrMoney.Error())
}

// 8.3: Immune, by its words: together worth 1, their mean time 0. 8.8: by any rate they are worth 1 at least.
func TestImmune(t *testing.T) {
	r := random(88)
	for n := range 60 {
		rate, before, behind := anyRate(r), 1+r.Intn(longest), 1+r.Intn(longest)
		if n < 8 {
			before, behind = []int{1, longest}[n%2], []int{1, longest}[n/2%2]
		}
		what := fmt.Sprint("Immune ", rate, " ", before, " ", behind)
		a, b, e := interest.Immune(rate, before, behind)
		all := whole(before + behind)
		first := times(power(up(rate), -before), by(whole(behind), all))
		second := times(power(up(rate), behind), by(whole(before), all))
		want(t, what, tellTwo(a, b, e), first.String()+" "+second.String())
		worthBy := func(other int) (*big.Rat, *big.Rat) {
			return times(toBig(a), power(up(other), before)), times(toBig(b), power(up(other), -behind))
		}
		early, late := worthBy(rate)
		want(t, what+" together", plus(early, late).String(), "1/1")
		want(t, what+" in the mean", plus(times(whole(-before), early), times(whole(behind), late)).String(), "0/1")
		for _, other := range append(rates, rate-1, rate+1, anyRate(r)) {
			if other <= -unit {
				continue
			}
			early, late := worthBy(other)
			if plus(early, late).Cmp(whole(1)) < 0 {
				t.Errorf("%s: by %d it is worth less than 1", what, other)
			}
		}
	}
}

// 8.3: what is out of its range.
func TestImmuneOutOfRange(t *testing.T) {
	refused := api.ErrRange.Error()
	for _, rate := range noRates {
		want(t, "Immune", tellTwo(interest.Immune(rate, 1, 1)), refused)
	}
	for _, years := range append(noYears, 0) {
		want(t, "Immune", tellTwo(interest.Immune(0, years, 1)), refused)
		want(t, "Immune", tellTwo(interest.Immune(0, 1, years)), refused)
		want(t, "Immune", tellTwo(interest.Immune(0, years, years)), refused)
	}
	want(t, "Immune", tellTwo(interest.Immune(0, longest, longest)), "1/2 1/2")
}
