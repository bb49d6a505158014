package money_test

import (
	"testing"

	"tontine/api"
	"tontine/money"
)

// The chapter's Examples 1 to 4.

func TestExample1(t *testing.T) {
	want(t, "Amount", tell(money.Amount(of("5/2"), api.RoundHalfEven)), "2")
	want(t, "Times", tell(money.Times(100, of("1/3"), api.RoundCeil)), "34")
	want(t, "Step", tell(money.Step(103, 5, api.RoundHalfUp)), "105")
	want(t, "Step", tell(money.Step(-103, 5, api.RoundFloor)), "-105")
}

func TestExample2(t *testing.T) {
	want(t, "Share", tellList(money.Share(100, list("1 1 1"))), "[34 33 33]")
	want(t, "Share", tellList(money.Share(100, list("1 2 3"))), "[17 33 50]")
	want(t, "Share", tellList(money.Share(-1, list("1 1"))), "[-1 0]")
	want(t, "Share", tellList(money.Share(5, list("0 0"))), api.ErrWeights.Error())
	want(t, "Parts", tellList(money.Parts(7, 3)), "[3 2 2]")
}

func TestExample3(t *testing.T) {
	want(t, "Cascade", tellList(money.Cascade(list("1/3 1/3 1/3"), api.RoundHalfEven)), "[0 1 0]")
	x := newRun(t, api.RoundHalfEven)
	for _, c := range [][2]string{{"0", "1/3"}, {"1", "-1/3"}, {"0", "0/1"}} {
		want(t, "Pay", tell(x.Pay(of("1/3"))), c[0])
		carry := x.Carry()
		want(t, "Carry", carry.Num+"/"+carry.Den, c[1])
	}
}

func TestExample4(t *testing.T) {
	want(t, "Show", tellText(money.Show(-5)), "-0.05")
	want(t, "Show", tellText(money.Show(123456)), "1234.56")
	for s, at := range map[string]int{"0.5": 3, "-0.00": 4, "01.00": 1, "12": 2} {
		want(t, "Read of "+s, tellRead(money.Read(s)), fault(at, api.ErrForm))
	}
}
