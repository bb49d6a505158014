package money_test

import (
	"fmt"
	"math"
	"math/big"
	"regexp"
	"strconv"
	"strings"
	"testing"

	"tontine/api"
	"tontine/money"
)

// 6.5: texts of amounts below a pound, below nought, of nought, at the ends.
func TestShow(t *testing.T) {
	for p, wanted := range map[int]string{
		0: "0.00", 1: "0.01", -1: "-0.01", 9: "0.09", 10: "0.10", -10: "-0.10", 99: "0.99", -99: "-0.99", 100: "1.00", -100: "-1.00", 101: "1.01", 110: "1.10", 1005: "10.05", -123456: "-1234.56", 100000: "1000.00",
		most: "10000000000000.00", -most: "-10000000000000.00", most - 1: "9999999999999.99", 1 - most: "-9999999999999.99",
	} {
		want(t, "Show", tellText(money.Show(p)), wanted)
		want(t, "Read", tellRead(money.Read(wanted)), strconv.Itoa(p))
	}
	for _, p := range noAmounts {
		want(t, fmt.Sprint("Show ", p), tellText(money.Show(p)), api.ErrMoney.Error())
	}
}

// 6.8: Read of Show is the amount.
func TestReadOfShow(t *testing.T) {
	r := random(67)
	for i := range 5000 {
		p := anyAmount(r)
		if i < 2500 {
			p = i - 1250
		}
		s, e := money.Show(p)
		want(t, "Read of "+tellText(s, e), tellRead(money.Read(s)), strconv.Itoa(p))
	}
}

var form = regexp.MustCompile(`^-?(0|[1-9][0-9]*)\.[0-9][0-9]$`)

// isText tells whether s is the text of a whole number of pennies.
func isText(s string) bool { return form.MatchString(s) && s != "-0.00" }

// isBeginning tells whether s is the beginning of such a text: whether something behind it makes it one.
func isBeginning(s string) bool {
	for _, more := range []string{"", "1", "11", ".11", "1.11"} {
		if isText(s + more) {
			return true
		}
	}
	return false
}

// readOf is what 6.5 says of a text that is not too long.
func readOf(s string) string {
	if isText(s) {
		n, _ := new(big.Int).SetString(strings.Replace(s, ".", "", 1), 10)
		if !isAmount(n) {
			return fault(0, api.ErrMoney)
		}
		return n.String()
	}
	for i := range len(s) {
		if !isBeginning(s[:i+1]) {
			return fault(i, api.ErrForm)
		}
	}
	return fault(len(s), api.ErrForm)
}

// checkRead holds Read to 6.5, and to 6.8: what was read is shown as it stood.
func checkRead(t *testing.T, s string) {
	t.Helper()
	n, f := money.Read(s)
	want(t, fmt.Sprintf("Read of %q", s), tellRead(n, f), readOf(s))
	if f == (api.Fault{}) {
		want(t, "Show of Read", tellText(money.Show(n)), s)
	}
}

// 6.5: all short texts of bytes that matter.
func TestReadOfAllShortTexts(t *testing.T) {
	const bytes = "-.0159x "
	level := []string{""}
	for range 6 {
		var next []string
		for _, s := range level {
			checkRead(t, s)
			if !isBeginning(s) { // what is wrong stays wrong at the same place: a byte more is enough to look at
				checkRead(t, s+"0")
				continue
			}
			for i := range len(bytes) {
				next = append(next, s+bytes[i:i+1])
			}
		}
		level = next
	}
}

// 6.5: texts that are wrong in one byte, of all bytes, at each place.
func TestReadByteByByte(t *testing.T) {
	for _, s := range []string{"0.00", "0.05", "-0.05", "-0.50", "7.30", "-12.34", "1234.56", "-90071992.54", "10000000000000.00", "-10000000000000.00", "100000000000000.00"} {
		for at := range len(s) + 1 {
			checkRead(t, s[:at])
			for b := range 256 {
				checkRead(t, s[:at]+string([]byte{byte(b)})+s[at:])
				if at < len(s) {
					checkRead(t, s[:at]+string([]byte{byte(b)})+s[at+1:])
				}
			}
			if at < len(s) {
				checkRead(t, s[:at]+s[at+1:])
			}
		}
	}
}

// 6.5: places of faults, one by one.
func TestReadOfWrongTexts(t *testing.T) {
	for s, at := range map[string]int{
		"": 0, "-": 1, "--1.00": 1, "+1.00": 0, " 1.00": 0, "1.00 ": 4, "1.00\n": 4, "1.000": 4, "1.0": 3, "1.": 2, "1": 1, ".50": 0, "-.50": 1, "1,00": 1, "1.0x": 3, "1.x0": 2, "1..0": 2,
		"00.00": 1, "007.00": 1, "-00.00": 2, "-01.00": 2, "-0.00": 4, "-0.0": 4, "-0.000": 4, "-0.00x": 4, "-0.0x": 4, "-0.": 3, "-0": 2, "0.001": 4, "0x1.00": 1, "1_0.00": 1, "1e2.00": 1, "$1.00": 0, "\u0661.00": 0, "1.\xff0": 2, "\x001.00": 0, "Inf": 0,
	} {
		want(t, fmt.Sprintf("Read of %q", s), tellRead(money.Read(s)), fault(at, api.ErrForm))
		checkRead(t, s)
	}
}

// 6.5: whole numbers of pennies that are no amounts, however long.
func TestReadOfNoAmounts(t *testing.T) {
	for _, s := range []string{"10000000000000.01", "-10000000000000.01", "10000000000000.10", "99999999999999.99", "92233720368547758.07", "92233720368547758.08", "-92233720368547758.08", "-92233720368547758.09", "184467440737095516.16", "184467440737095516.17", nines(19) + ".00", nines(20) + ".00", "-" + nines(400) + ".99", nines(api.MaxText-3) + ".00", "-" + ten(api.MaxText-5) + ".00"} {
		want(t, "Read of "+short(s), tellRead(money.Read(s)), fault(0, api.ErrMoney))
	}
	want(t, "Read of the greatest one", tellRead(money.Read("10000000000000.00")), strconv.Itoa(most))
	want(t, "Read of the least one", tellRead(money.Read("-10000000000000.00")), strconv.Itoa(-most))
}

// 6.5, R3: texts that are too long, and such that are just not.
func TestReadOfLongTexts(t *testing.T) {
	for _, s := range []string{nines(api.MaxText-2) + ".00", strings.Repeat("x", api.MaxText+1), strings.Repeat("0", api.MaxText+1), strings.Repeat("-", 2*api.MaxText)} {
		want(t, "Read of a text that is too long", tellRead(money.Read(s)), fault(0, api.ErrLong))
	}
	want(t, "Read of a long text", tellRead(money.Read(nines(api.MaxText))), fault(api.MaxText, api.ErrForm))
	want(t, "Read of a long text", tellRead(money.Read(nines(api.MaxText-1)+"x")), fault(api.MaxText-1, api.ErrForm))
	want(t, "Read of a long text", tellRead(money.Read(nines(api.MaxText-1)+".")), fault(api.MaxText, api.ErrForm))
	want(t, "Read of a long text", tellRead(money.Read("0.00"+nines(api.MaxText-4))), fault(4, api.ErrForm))
}

// P1: no call panics, whatever ints it is given.
func TestShowOfAnyInts(t *testing.T) {
	r := random(68)
	for _, p := range []int{math.MinInt, math.MinInt + 1, math.MaxInt} {
		want(t, "Show", tellText(money.Show(p)), api.ErrMoney.Error())
	}
	for range 1000 {
		p := int(r.Uint64())
		s, e := money.Show(p)
		if isAmount(big.NewInt(int64(p))) != (e == api.OK) || (e == api.OK) != isText(s) {
			t.Errorf("Show(%d): %s", p, tellText(s, e))
		}
	}
}
