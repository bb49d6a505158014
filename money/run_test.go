package money_test

import (
	"fmt"
	"math/big"
	"strconv"
	"strings"
	"testing"

	"tontine/api"
	"tontine/money"
)

func newRun(t *testing.T, way int) *money.Run {
	t.Helper()
	x, e := money.New(way)
	if e != api.OK || x == nil {
		t.Fatalf("New(%d): %v, %v", way, x, e)
	}
	return x
}

// state is all that a run tells without going on.
func state(x *money.Run) string {
	carry := x.Carry()
	return strconv.Itoa(x.Paid()) + " " + carry.Num + "/" + carry.Den
}

// twoLong are numbers whose denominators have no common divisor, and too many digits together.
func twoLong() (api.Ratio, api.Ratio) {
	return of("1/1" + strings.Repeat("0", 2100)), of("1/" + nines(2100))
}

// 6.3: ordinary runs, sums that fall, amounts below nought, none.
func TestCascade(t *testing.T) {
	for _, c := range []struct {
		l      string
		way    int
		wanted string
	}{
		{"", api.RoundFloor, "[]"}, {"5/2", api.RoundHalfEven, "[2]"}, {"-5/2", api.RoundFloor, "[-3]"},
		{"1/2 1/2 1/2 1/2", api.RoundHalfUp, "[1 0 1 0]"}, {"1/2 1/2 1/2 1/2", api.RoundHalfEven, "[0 1 1 0]"}, {"1/2 1/2 1/2 1/2", api.RoundFloor, "[0 1 0 1]"}, {"1/2 1/2 1/2 1/2", api.RoundCeil, "[1 0 1 0]"},
		{"5/2 -1 -1 -1 -1", api.RoundHalfEven, "[2 0 -2 0 -2]"}, {"5/2 -1 -1 -1 -1", api.RoundDown, "[2 -1 -1 0 -1]"}, {"5/2 -1 -1 -1 -1", api.RoundUp, "[3 -1 -1 -2 -1]"},
		{"1/3 1/3 1/3 -1/3 -1/3 -1/3", api.RoundCeil, "[1 0 0 0 0 -1]"}, {"0 0 7", api.RoundUp, "[0 0 7]"},
		{"1000000000000000 -1000000000000000 -1000000000000000", api.RoundDown, "[1000000000000000 -1000000000000000 -1000000000000000]"},
	} {
		want(t, fmt.Sprint("Cascade of ", c.l, " by ", c.way), tellList(money.Cascade(list(c.l), c.way)), c.wanted)
	}
	for _, way := range ways {
		want(t, "Cascade of none", tellList(money.Cascade(nil, way)), "[]")
		want(t, "Cascade of many", tellList(money.Cascade(repeated(of("-3"), api.MaxItems), way)), fmt.Sprint(repeated(-3, api.MaxItems)))
	}
}

// cascade is what 6.3 says, reckoned by the library.
func cascade(l []*big.Rat, way int) string {
	sum, ahead := new(big.Rat), new(big.Int)
	amounts := []int{}
	for _, x := range l {
		sum.Add(sum, x)
		if tooLong(sum) {
			return api.ErrLong.Error()
		}
		upTo := rounded(sum, way)
		part := new(big.Int).Sub(upTo, ahead)
		if !isAmount(upTo) || !isAmount(part) {
			return api.ErrMoney.Error()
		}
		amounts = append(amounts, int(part.Int64()))
		ahead = upTo
	}
	return fmt.Sprint(amounts)
}

// 6.3, 6.7: against the library; up to any place the amounts sum to the exact sum, rounded.
func TestCascadeOfAnyNumbers(t *testing.T) {
	r := random(64)
	for i := range 2500 {
		var l []*big.Rat
		for range r.Intn(14) {
			l = append(l, anyRatio(r, 1+i%16))
		}
		way := ways[i%len(ways)]
		got, e := money.Cascade(fromBigs(l), way)
		want(t, fmt.Sprint("Cascade of ", l, " by ", way), tellList(got, e), cascade(l, way))
		sum, all := new(big.Rat), 0
		for j := range got {
			sum.Add(sum, l[j])
			all += got[j]
			want(t, "sum up to a place", strconv.Itoa(all), rounded(sum, way).String())
		}
	}
}

// 6.3: errors place by place: sums and differences that are no amounts, sums that are too long.
func TestCascadeThatLeaves(t *testing.T) {
	p, q := twoLong()
	far, farther := of(strconv.Itoa(most)), of(strconv.Itoa(most+1))
	back := of(strconv.Itoa(-most))
	twice := of(strconv.Itoa(2 * most))
	farQ := fromBig(new(big.Rat).Add(toBig(q), big.NewRat(2*most, 1)))
	none, long := api.ErrMoney.Error(), api.ErrLong.Error()
	for _, c := range []struct {
		what   string
		l      []api.Ratio
		wanted string
	}{
		{"at the end of the range", []api.Ratio{far, of("0")}, "[1000000000000000 0]"},
		{"at the other end", []api.Ratio{back, of("0")}, "[-1000000000000000 0]"},
		{"beyond at one place only", []api.Ratio{far, of("1"), of("-1")}, none},
		{"beyond at the first place", []api.Ratio{farther, of("-2")}, none},
		{"beyond, below", []api.Ratio{back, of("-1"), of("1")}, none},
		{"a difference that is none", []api.Ratio{back, twice}, none},
		{"a difference that is none, below", []api.Ratio{far, of("-" + twice.Num)}, none},
		{"a part that is none, cut off by rounding", []api.Ratio{far, of("1/3"), of("-1/3")}, "[1000000000000000 0 0]"},
		{"too long", []api.Ratio{p, q}, long},
		{"too long at one place only", []api.Ratio{p, q, fromBig(new(big.Rat).Neg(toBig(q)))}, long},
		{"too long above", []api.Ratio{of(nines(api.MaxDigits)), of("1")}, none},
		{"too long above, but an amount", []api.Ratio{fromBig(toBig(of("4/" + ten(api.MaxDigits-7)))), of(nines(api.MaxDigits) + "/" + ten(api.MaxDigits-7))}, long},
		{"too long below", []api.Ratio{of("1/" + nines(api.MaxDigits)), of("1/2")}, long},
		{"beyond ahead of too long", []api.Ratio{farther, p, q}, none},
		{"too long ahead of beyond", []api.Ratio{p, q, farther}, long},
		{"too long and beyond at once", []api.Ratio{p, farQ}, long},
		{"long, but not too long", []api.Ratio{of("1/" + nines(api.MaxDigits)), of("1/" + nines(api.MaxDigits))}, "[0 0]"},
	} {
		want(t, c.what, tellList(money.Cascade(c.l, api.RoundDown)), c.wanted)
	}
	want(t, "beyond by rounding", tellList(money.Cascade([]api.Ratio{far, of("1/3"), of("-1/3")}, api.RoundCeil)), none)
}

// 6.3, R1, R3: wrong arguments, and which of two errors comes first.
func TestCascadeOfWrongOnes(t *testing.T) {
	p, q := twoLong()
	for bad, e := range wrong() {
		for _, way := range append(noWays, ways...) {
			for _, l := range [][]api.Ratio{{bad}, {of("1"), bad}, {of(nines(40)), bad}, {p, q, bad}, {bad, of("2/2"), of(ten(api.MaxDigits))}} {
				want(t, "Cascade of a wrong number", tellList(money.Cascade(l, way)), e.Error())
			}
		}
	}
	for _, way := range append(noWays, ways...) {
		for _, r := range []api.Ratio{of("1"), of("x"), of(nines(40))} {
			want(t, "Cascade of too many", tellList(money.Cascade(repeated(r, api.MaxItems+1), way)), api.ErrLong.Error())
		}
	}
	for _, way := range noWays {
		for _, l := range [][]api.Ratio{nil, list("1 2"), list(nines(40)), {p, q}} {
			want(t, "Cascade by no way", tellList(money.Cascade(l, way)), api.ErrRange.Error())
		}
	}
}

// 6.4: New.
func TestNew(t *testing.T) {
	for _, way := range noWays {
		if x, e := money.New(way); x != nil || e != api.ErrRange {
			t.Errorf("New(%d): %v, %v", way, x, e)
		}
	}
	for _, way := range ways {
		want(t, "a new run", state(newRun(t, way)), "0 0/1")
	}
}

// 6.4: by each way, above and below nought; carries that come to nought.
func TestRunsByEachWay(t *testing.T) {
	for way, wanted := range map[int]string{
		api.RoundFloor: "0 1/2, 0 5/6, 1 1/3, -1 1/3, -3 5/6, 0 1/3, -1 2/3, 1 0/1", api.RoundCeil: "1 -1/2, 0 -1/6, 1 -2/3, -1 -2/3, -3 -1/6, 0 -2/3, -1 -1/3, 0 0/1",
		api.RoundDown: "0 1/2, 0 5/6, 1 1/3, 0 -2/3, -3 -1/6, 0 -2/3, -1 -1/3, 0 0/1", api.RoundUp: "1 -1/2, -1 5/6, 2 -2/3, -2 1/3, -3 5/6, 1 -2/3, -2 2/3, 1 0/1",
		api.RoundHalfUp: "1 -1/2, 0 -1/6, 0 1/3, -1 1/3, -2 -1/6, -1 1/3, 0 -1/3, 0 0/1", api.RoundHalfEven: "0 1/2, 1 -1/6, 0 1/3, -1 1/3, -2 -1/6, -1 1/3, 0 -1/3, 0 0/1",
	} {
		x := newRun(t, way)
		got, paid := "", 0
		for _, s := range []string{"1/2", "1/3", "1/2", "-1", "-5/2", "-1/2", "-2/3", "1/3"} {
			n, e := x.Pay(of(s))
			if e != api.OK {
				t.Fatal(e)
			}
			paid += n
			carry := x.Carry()
			got += ", " + strconv.Itoa(n) + " " + carry.Num + "/" + carry.Den
			want(t, "Paid", strconv.Itoa(x.Paid()), strconv.Itoa(paid))
		}
		want(t, fmt.Sprint("a run by ", way), got[2:], wanted)
	}
}

// 6.4, 6.7: against the library; what is paid and carried is all that was to be paid; a carry is below a penny, or half of one.
func TestRunsOfAnyNumbers(t *testing.T) {
	r := random(65)
	for i := range 900 {
		way := ways[i%len(ways)]
		x := newRun(t, way)
		carry, due, paid := new(big.Rat), new(big.Rat), new(big.Int)
		for range 12 {
			a := anyRatio(r, 1+i%16)
			c := new(big.Rat).Add(carry, a)
			n := rounded(c, way)
			all := new(big.Int).Add(paid, n)
			before := state(x)
			if !isAmount(n) || !isAmount(all) {
				want(t, "Pay of too much", tell(x.Pay(fromBig(a))), api.ErrMoney.Error())
				want(t, "a run behind an error", state(x), before)
				continue
			}
			want(t, fmt.Sprint("Pay ", a, " behind ", carry, " by ", way), tell(x.Pay(fromBig(a))), n.String())
			carry, paid = c.Sub(c, new(big.Rat).SetInt(n)), all
			due.Add(due, a)
			want(t, "the run", state(x), paid.String()+" "+carry.String())
			checkCarry(t, x, due, way)
		}
	}
}

// checkCarry holds a run to 6.7.
func checkCarry(t *testing.T, x *money.Run, due *big.Rat, way int) {
	t.Helper()
	carry := toBig(x.Carry())
	all := new(big.Rat).Add(carry, big.NewRat(int64(x.Paid()), 1))
	if all.Cmp(due) != 0 {
		t.Errorf("paid and carried: %s of %s", all, due)
	}
	side := new(big.Rat).Abs(carry).Cmp(big.NewRat(1, 1))
	if way == api.RoundHalfUp || way == api.RoundHalfEven {
		side = new(big.Rat).Abs(carry).Cmp(big.NewRat(1, 2)) - 1
	}
	if side >= 0 {
		t.Errorf("%s is carried by %d", carry, way)
	}
}

// 6.4: payments that fail leave the run as it was, and it goes on from there (R5).
func TestPayThatFails(t *testing.T) {
	p, q := twoLong()
	pay := func(x *money.Run, r api.Ratio, wanted string) {
		t.Helper()
		before := state(x)
		want(t, "Pay", tell(x.Pay(r)), wanted)
		if strings.HasPrefix(wanted, "error") {
			want(t, "a run behind an error", state(x), before)
		}
	}
	none, long := api.ErrMoney.Error(), api.ErrLong.Error()
	x := newRun(t, api.RoundHalfUp)
	pay(x, of(strconv.Itoa(most+1)), none)
	pay(x, of(strconv.Itoa(-most-1)), none)
	pay(x, of(strconv.Itoa(most)+".5"), api.ErrShape.Error())
	pay(x, of(strconv.Itoa(2*most+1)+"/2"), none) // a half above the greatest amount goes up
	pay(x, of(strconv.Itoa(most)), "1000000000000000")
	pay(x, of("1"), none)
	pay(x, of("1/2"), none)
	pay(x, of("1/3"), "0")
	pay(x, of("1/3"), none)
	pay(x, of(strconv.Itoa(-most)), "-1000000000000000")
	pay(x, of(strconv.Itoa(-most)), "-1000000000000000")
	pay(x, of("-1"), none)
	want(t, "the run", state(x), strconv.Itoa(-most)+" 1/3")
	for bad, e := range wrong() {
		pay(x, bad, e.Error())
	}
	x = newRun(t, api.RoundDown)
	pay(x, p, "0")
	pay(x, q, long)
	pay(x, fromBig(new(big.Rat).Add(toBig(q), big.NewRat(most+1, 1))), none) // what is left would be too long, too
	pay(x, fromBig(new(big.Rat).Add(toBig(q), big.NewRat(most, 1))), long)
	pay(x, of(strconv.Itoa(most)), "1000000000000000")
	pay(x, fromBig(new(big.Rat).Add(toBig(q), big.NewRat(1, 1))), none)
	want(t, "the run", state(x), strconv.Itoa(most)+" "+p.Num+"/"+p.Den)
}

// 6.4: what is carried and to be paid may together be too long, if what is left is not (R2).
func TestPayOfWhatIsLongOnTheWay(t *testing.T) {
	x := newRun(t, api.RoundDown)
	last := ten(api.MaxDigits - 7) // a number of one digit too many, above, stands over so many noughts
	want(t, "a little", tell(x.Pay(fromBig(toBig(of("4/"+last))))), "0")
	want(t, "nearly 10000000", tell(x.Pay(of(nines(api.MaxDigits)+"/"+last))), "10000000")
	want(t, "the run", state(x), "10000000 3/"+last)
	x = newRun(t, api.RoundDown)
	long := of(nines(api.MaxDigits-1) + "8/" + nines(api.MaxDigits)) // above and below as long as may be
	want(t, "nearly 1", tell(x.Pay(long)), "0")
	want(t, "nearly 1", tell(x.Pay(long)), "1")
	want(t, "the run", state(x), "1 "+nines(api.MaxDigits-1)+"7/"+nines(api.MaxDigits))
}

// 6.4: two runs beside each other know nothing of each other.
func TestRunsBesideEachOther(t *testing.T) {
	one, other := newRun(t, api.RoundFloor), newRun(t, api.RoundCeil)
	r := random(66)
	ones, others := "", ""
	for range 60 {
		a, b := fromBig(anyRatio(r, 3)), fromBig(anyRatio(r, 3))
		alone := tell(one.Pay(a)) + " " + state(one)
		others += tell(other.Pay(b)) + " " + state(other) + ";"
		if !strings.HasSuffix(alone, state(one)) {
			t.Errorf("a run was changed by another: %s, then %s", alone, state(one))
		}
		ones += alone + ";"
	}
	r = random(66)
	one, other = newRun(t, api.RoundFloor), newRun(t, api.RoundCeil)
	againOnes, againOthers := "", ""
	var rest []api.Ratio
	for range 60 {
		a := fromBig(anyRatio(r, 3))
		rest = append(rest, fromBig(anyRatio(r, 3)))
		againOnes += tell(one.Pay(a)) + " " + state(one) + ";"
	}
	for _, b := range rest {
		againOthers += tell(other.Pay(b)) + " " + state(other) + ";"
	}
	want(t, "one run", ones, againOnes)
	want(t, "the other run", others, againOthers)
}
