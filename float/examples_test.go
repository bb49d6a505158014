package float_test

import (
	"fmt"
	"math"
	"strings"
	"testing"

	"tontine/api"
	"tontine/float"
)

// The chapter's Examples 1 to 6.

func TestExample1(t *testing.T) {
	want(t, "Split 1", fmt.Sprint(float.Split(1)), fmt.Sprint(api.Parts{Kind: api.FloatNormal, Mant: 1 << 52, Exp: -52}))
	want(t, "Split L", fmt.Sprint(float.Split(5e-324)), fmt.Sprint(api.Parts{Kind: api.FloatSmall, Mant: 1, Exp: -1074}))
	want(t, "Split32 1", fmt.Sprint(float.Split32(1)), fmt.Sprint(api.Parts{Kind: api.FloatNormal, Mant: 1 << 23, Exp: -23}))
	want(t, "Exact 0.1", tellRatio(float.Exact(0.1)), "3602879701896397/36028797018963968")
}

func TestExample2(t *testing.T) {
	third := math.Ldexp(6004799503160661, -54)
	great, tiny := of("1"+strings.Repeat("0", 400)), of("-1/1"+strings.Repeat("0", 400))
	want(t, "1/3, floor", tellFloat(float.Round(of("1/3"), api.RoundFloor)), tellFloat(third, api.OK))
	want(t, "1/3, ceil", tellFloat(float.Round(of("1/3"), api.RoundCeil)), tellFloat(float.Up(third), api.OK))
	want(t, "10^400, floor", tellFloat(float.Round(great, api.RoundFloor)), tellFloat(greatest, api.OK))
	want(t, "10^400, half even", tellFloat(float.Round(great, api.RoundHalfEven)), tellFloat(inf, api.OK))
	want(t, "-10^-400, ceil", tellFloat(float.Round(tiny, api.RoundCeil)), tellFloat(minus, api.OK))
	want(t, "-10^-400, up", tellFloat(float.Round(tiny, api.RoundUp)), tellFloat(-least, api.OK))
	want(t, "2^24 + 1, half even", tell32(float.Round32(of("16777217"), api.RoundHalfEven)), tell32(16777216, api.OK))
	want(t, "2^24 + 1, half up", tell32(float.Round32(of("16777217"), api.RoundHalfUp)), tell32(16777218, api.OK))
}

func TestExample3(t *testing.T) {
	want(t, "Up 0", told(float.Up(0)), told(5e-324))
	want(t, "Up -L", told(float.Up(-5e-324)), told(minus))
	want(t, "Down 0", told(float.Down(0)), told(-5e-324))
	want(t, "Steps 1 2", tellSteps(float.Steps(1, 2)), tellSteps(1<<52, true))
	want(t, "Order -0 0", fmt.Sprint(float.Order(minus, 0)), "-1")
	want(t, "Gap 1", tellGap(float.Gap(1)), tellGap(math.Ldexp(1, -52), true))
}

func TestExample4(t *testing.T) {
	want(t, "1 and 2^-53, half even", tell(float.Add(1, math.Ldexp(1, -53), api.RoundHalfEven)), reckoned(1, api.FlagInexact))
	want(t, "1 and 2^-53, ceil", tell(float.Add(1, math.Ldexp(1, -53), api.RoundCeil)), reckoned(1+math.Ldexp(1, -52), api.FlagInexact))
	want(t, "1 and -1, floor", tell(float.Add(1, -1, api.RoundFloor)), reckoned(minus, 0))
	want(t, "2^-1000 twice, up", tell(float.Mul(math.Ldexp(1, -1000), math.Ldexp(1, -1000), api.RoundUp)), reckoned(least, api.FlagUnder|api.FlagInexact))
	want(t, "M times 2, down", tell(float.Mul(greatest, 2, api.RoundDown)), reckoned(greatest, api.FlagOver|api.FlagInexact))
	want(t, "M times 2 less M", tell(float.Fused(greatest, 2, -greatest, api.RoundHalfEven)), reckoned(greatest, 0))
	want(t, "the root of 2, floor", tell(float.Root(2, api.RoundFloor)), reckoned(1.414213562373095, api.FlagInexact))
	for _, way := range ways {
		want(t, "1 by 0", tell(float.Div(1, 0, way)), reckoned(inf, api.FlagZero))
	}
}

func TestExample5(t *testing.T) {
	want(t, "2.5, half even", tellInt(float.Whole(2.5, api.RoundHalfEven)), "2")
	want(t, "-0.5, floor", tellInt(float.Whole(-0.5, api.RoundFloor)), "-1")
	for _, way := range ways {
		want(t, "9.3e18", tellInt(float.Whole(9.3e18, way)), api.ErrRange.Error())
	}
	want(t, "2^53 + 1, half even", tellFloat(float.OfInt(1<<53+1, api.RoundHalfEven)), tellFloat(1<<53, api.OK))
}

func TestExample6(t *testing.T) {
	s, e := float.TwoSum(1, math.Ldexp(1, -60))
	want(t, "TwoSum", told(s)+told(e), told(1)+told(math.Ldexp(1, -60)))
	want(t, "TwoProduct", tellProduct(twoProduct(0.1, 10)), tellProduct(product{p: 1, lost: of("1/18014398509481984")}))
}
