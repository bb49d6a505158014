package interest_test

import (
	"fmt"
	"math/rand"
	"testing"

	"tontine/api"
	"tontine/interest"
)

// 8.4, 8.9: at Lo flows are worth nought, or have the first payment's sign turned about; at Hi nought or that sign; no float lies between.
func TestYield(t *testing.T) {
	for _, text := range []string{
		"0:-100 1:110", "0:100 1:-110", "0:-100 2:121", "0:-3 1:4", "5:-3 6:4", "0:0 5:-3 6:0 7:4 130:0", "0:-1 130:1000000000000000", "0:-1000000000000000 130:1",
		"0:-1000000000000000 130:999999999999999", "0:-999999999999999 130:1000000000000000", "0:-1000000000000000 1:999999999999999", "129:1000000000000000 130:-999999999999999",
		"0:-1 1:1000000000000000", "0:-1000000000000000 1:1", "0:1 1:1 2:1 3:-1000000000000000", "0:1000000000000000 1:1000000000000000 2:-1",
		"0:-100 1:5 2:5 3:5 4:5 5:105", "0:-100 1:-100 2:250", "0:-1000 1:600 2:600",
	} {
		checkYield(t, flows(text))
	}
	r := random(84)
	for range 60 {
		checkYield(t, signedFlows(r, 1))
	}
	checkYield(t, nearNought(1))
	checkYield(t, nearNought(-1))
}

func checkYield(t *testing.T, l []api.Flow) {
	t.Helper()
	s, e := interest.Yield(l)
	if e != api.OK || !areNext(s) || s.Lo < -1 || s.Hi <= -1 {
		t.Fatalf("Yield %v: %v %v", l, s, e)
	}
	lo, hi := firstSign(l)*signAt(l, s.Lo), firstSign(l)*signAt(l, s.Hi)
	if s.Lo == s.Hi && (lo != 0 || hi != 0) || s.Lo < s.Hi && (lo != -1 && s.Lo > -1 || hi != 1) {
		t.Errorf("Yield %v: %v: at Lo %d, at Hi %d", l, s, lo, hi)
	}
}

// firstSign is the sign of the first payment that is not 0.
func firstSign(l []api.Flow) int {
	for _, f := range l {
		if f.Amount != 0 {
			return whole(f.Amount).Sign()
		}
	}
	return 0
}

// signAt is the sign of what flows are worth by the rate x; of -1, by which nothing is worth anything, it is 0.
func signAt(l []api.Flow, x float64) int {
	each := plus(whole(1), numberOf(x))
	if each.Sign() <= 0 {
		return 0
	}
	return worth(l, each, 0).Sign()
}

// signedFlows are flows whose sign changes just so often.
func signedFlows(r *rand.Rand, changes int) []api.Flow {
	for {
		l := anyFlows(r, 2+changes+r.Intn(12))
		if countChanges(l) == changes {
			return l
		}
	}
}

func countChanges(l []api.Flow) int {
	changes, last := 0, 0
	for _, f := range l {
		sign := whole(f.Amount).Sign()
		if sign != 0 && last != 0 && sign != last {
			changes++
		}
		if sign != 0 {
			last = sign
		}
	}
	return changes
}

// nearNought are flows of all times and of the greatest amounts that sum to a penny, so that no yield lies nearer to nought: above it, if the penny is.
func nearNought(penny int) []api.Flow {
	var l []api.Flow
	for time := range longest + 1 {
		switch {
		case time < 65:
			l = append(l, api.Flow{Time: time, Amount: -most})
		case time > 65:
			l = append(l, api.Flow{Time: time, Amount: most})
		default:
			l = append(l, api.Flow{Time: time, Amount: penny})
		}
	}
	return l
}

// 8.4: yields that are floats' own numbers stand at both ends, nought as +0.
func TestYieldFloats(t *testing.T) {
	for text, y := range map[string]float64{
		"0:-100 1:100": 0, "0:100 130:-100": 0, "0:-1 64:0 130:1": 0, "0:-2 1:1 2:1": 0, "129:7 130:-7": 0,
		"0:-2 1:3": 0.5, "0:2 1:-3": 0.5, "0:-4 2:9": 0.5, "0:-2 1:1": -0.5, "0:-8 1:1": -0.875, "3:-100 5:225": 0.5, "0:-1 1:1024": 1023, "0:-1 49:562949953421312": 1, "0:-562949953421312 49:1": -0.5,
		"0:-1000 1:500 2:1500": 0.5, "0:-1 1:1000000000000000": 999999999999999, "0:-562949953421312 1:1": -1 + 0x1p-49,
		"0:-562949953421312 1:562949953421313": 0x1p-49, "0:-562949953421312 1:562949953421311": -0x1p-49,
	} {
		want(t, "Yield of "+text, tellSpan(interest.Yield(flows(text))), bits(y, y))
	}
}

// 8.4: amounts whose signs do not change just once, noughts left out.
func TestYieldSigns(t *testing.T) {
	for _, text := range []string{"", "0:0", "0:0 1:0 130:0", "0:1", "130:-1", "0:1 1:1", "0:-1 1:-1 2:0", "0:1 1:0 2:1", "0:-1 1:2 2:-1", "0:1 1:-1 2:0 3:1", "0:-1 1:1 2:-1 3:1"} {
		want(t, "Yield of "+text, tellSpan(interest.Yield(flows(text))), api.ErrSigns.Error())
	}
	r := random(840)
	for n := range 40 {
		l := signedFlows(r, n%5)
		if n%5 != 1 {
			want(t, fmt.Sprint("Yield of ", l), tellSpan(interest.Yield(l)), api.ErrSigns.Error())
		}
	}
	want(t, "what may not be, ahead of signs", tellSpan(interest.Yield(flows("0:1 131:1"))), api.ErrFlows.Error())
	want(t, "amounts ahead of signs", tellSpan(interest.Yield(flows("0:1 1:1000000000000001"))), api.ErrMoney.Error())
}
