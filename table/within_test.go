package table_test

import (
	"fmt"
	"math/big"
	"strings"
	"testing"

	"tontine/api"
	"tontine/table"
)

// parts are parts of a year, both ends among them.
var parts = []string{"0", "1", "1/2", "1/3", "9999999/10000000", "1/10000000", "364/365", "1/123456789012345678901234567890", "123456789012345678901234567889/123456789012345678901234567890"}

// livesPart is the chance to live a part of a year, by the Words.
func livesPart(u, q *big.Rat, how int) *big.Rat {
	one := whole(1)
	switch {
	case how == api.DieEvenly:
		return minus(one, times(u, q))
	case q.Cmp(one) == 0 && u.Sign() == 0:
		return one
	case q.Cmp(one) == 0:
		return new(big.Rat)
	}
	return by(minus(one, q), minus(one, times(minus(one, u), q)))
}

// 9.3: Within, by the Words.
func TestWithin(t *testing.T) {
	r := random(93)
	eachLife(func(what string, a api.Table, l api.Life) {
		chance := survival(a, l)
		for _, n := range yearsFor(a, l) {
			for _, s := range []string{"0", "1", parts[r.Intn(len(parts))]} {
				for _, how := range hows {
					wanted := new(big.Rat)
					if q := rateIn(a, l, n); q >= 0 {
						wanted = times(chance(n), livesPart(toBig(t, of(s)), part(q), how))
					}
					want(t, fmt.Sprint("Within of ", what, " in ", n, ", ", s, " by ", how), tell(table.Within(a, l, n, of(s), how)), wanted.String())
				}
			}
		}
	})
}

// 9.3: both ways at the ends of the rates' range, and at all parts.
func TestWithinAtEnds(t *testing.T) {
	for _, rate := range []int{0, 1, unit / 2, unit - 1, unit} {
		a := api.Table{Name: "t", Rates: []int{unit}}
		if rate < unit {
			a.Rates = []int{rate, unit}
		}
		for _, s := range parts {
			for _, how := range hows {
				wanted := livesPart(toBig(t, of(s)), part(rate), how)
				want(t, fmt.Sprint("Within at ", rate, ", ", s, " by ", how), tell(table.Within(a, api.Life{}, 0, of(s), how)), wanted.String())
			}
		}
	}
	last := api.Life{Entry: 63}
	want(t, "evenly in the last year", tell(table.Within(ages(), last, 0, of("1/4"), api.DieEvenly)), "3/4")
	want(t, "last in the last year", tell(table.Within(ages(), last, 0, of("1/4"), api.DieLast)), "0/1")
	want(t, "last in the last year, of no part", tell(table.Within(ages(), last, 0, of("0"), api.DieLast)), "1/1")
	want(t, "behind the last year", tell(table.Within(ages(), last, 1, of("0"), api.DieLast)), "0/1")
}

// noParts are exact numbers that are not right, with their errors of R1, and right ones that are no parts.
func noParts() map[api.Ratio]api.Errno {
	long := strings.Repeat("7", api.MaxDigits+1)
	return map[api.Ratio]api.Errno{
		{}: api.ErrShape, of("2/4"): api.ErrShape, of("0/2"): api.ErrShape, of("1/0"): api.ErrShape, of("1/-2"): api.ErrShape, of("-0"): api.ErrShape, of("+1"): api.ErrShape,
		of("01/2"): api.ErrShape, of("1/02"): api.ErrShape, of("x/2"): api.ErrShape, of("0.5"): api.ErrShape, {Num: "1"}: api.ErrShape, {Den: "1"}: api.ErrShape,
		of("1/" + long): api.ErrLong, of(long): api.ErrLong, of(long + "/" + long): api.ErrLong, of("-" + long): api.ErrLong, of(long + "/x"): api.ErrShape,
		of("-1/2"): api.ErrRange, of("-1"): api.ErrRange, of("2"): api.ErrRange, of("10000001/10000000"): api.ErrRange, of("-1/10000000"): api.ErrRange,
		of("123456789012345678901234567891/123456789012345678901234567890"): api.ErrRange, of("-1/123456789012345678901234567890"): api.ErrRange,
	}
}

// 9.3: wrong parts, ahead of a wrong way; wrong ways.
func TestWithinWrong(t *testing.T) {
	for _, n := range []int{0, 3, 4, longest} {
		for part, e := range noParts() {
			for _, how := range append(hows, noHows...) {
				want(t, fmt.Sprint("Within ", part, " by ", how), tell(table.Within(ages(), api.Life{Entry: 60}, n, part, how)), refused(e))
			}
		}
		for _, s := range parts {
			for _, how := range noHows {
				want(t, fmt.Sprint("Within ", s, " by ", how), tell(table.Within(ages(), api.Life{Entry: 60}, n, of(s), how)), refused(api.ErrRange))
			}
		}
	}
}

// 9.3, R2: parts of very many digits: what would be answered is just not too long, too long, and nought.
func TestWithinLong(t *testing.T) {
	tenTo := func(n int) string { return "1" + strings.Repeat("0", n) }
	nines := func(n int) string { return strings.Repeat("9", n) }
	a, l := ages(), api.Life{Entry: 60}
	short, long := of("1/"+tenTo(api.MaxDigits-2)), of("1/"+tenTo(api.MaxDigits-1))
	want(t, "just not too long", tell(table.Within(a, l, 0, short, api.DieEvenly)), nines(api.MaxDigits-1)+"/"+tenTo(api.MaxDigits-1))
	want(t, "too long", tell(table.Within(a, l, 0, long, api.DieEvenly)), refused(api.ErrLong))
	want(t, "too long", tell(table.Within(a, l, 0, of("1/"+nines(api.MaxDigits)), api.DieLast)), refused(api.ErrLong))
	want(t, "too long, and no way", tell(table.Within(a, l, 0, long, 0)), refused(api.ErrRange))
	want(t, "long, of a rate of 1", tell(table.Within(a, api.Life{Entry: 63}, 0, long, api.DieEvenly)), nines(api.MaxDigits-1)+"/"+tenTo(api.MaxDigits-1))
	want(t, "long, but nought", tell(table.Within(a, l, 3, long, api.DieLast)), "0/1")
	want(t, "long, but nought", tell(table.Within(a, l, 4, long, api.DieEvenly)), "0/1")
}
