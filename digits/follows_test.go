package digits_test

import (
	"math"
	"math/big"
	"math/rand"
	"sort"
	"strings"
	"testing"

	"tontine/api"
	"tontine/digits"
	"tontine/float"
)

// 3.7: there and back.
func TestThereAndBack(t *testing.T) {
	for i, x := range manyFloats(2000) {
		want(t, "Parse of Text", tell(digits.Parse(digits.Text(x))), told(x))
		want(t, "ParseHex of Hex", tell(digits.ParseHex(digits.Hex(x))), told(x))
		if !isFinite(x) || i%8 > 0 && i > 1000 {
			continue
		}
		s, _ := digits.Scientific(x, 17, api.RoundHalfEven)
		if x == 0 {
			x = 0 // -0 comes to 0
		}
		want(t, "Parse of Scientific", tell(digits.Parse(s)), told(x))
		s, _ = digits.Exact(x)
		want(t, "Parse of Exact", tell(digits.Parse(s)), told(x))
	}
	for _, x := range manySmall(5000) {
		want(t, "Parse32 of Text32", tell32(digits.Parse32(digits.Text32(x))), told32(x))
	}
}

// 3.8: no text with fewer digits than Digits has comes to x. The nearest ones on either side would, if one did.
func TestFewest(t *testing.T) {
	for _, x := range manyFloats(400) {
		d, n := digits.Digits(x)
		if len(d) < 2 || x < 0 {
			continue
		}
		exp := n - len(d) + 1 // the last one of the places that fewer digits have
		low := floor(new(big.Rat).Quo(ratOf(x), power(exp)))
		for i := range int64(2) {
			s := new(big.Int).Add(low, big.NewInt(i)).String() + "e" + big.NewInt(int64(exp)).String()
			if y, e := digits.Parse(s); y == x || e != api.OK {
				t.Errorf("%s has fewer digits than %s (%d), and comes to %s, %v", s, d, n, told(x), e)
			}
		}
		s := "0." + d + "e" + big.NewInt(int64(n)).String()
		want(t, "Parse of the digits "+s, tell(digits.Parse(s)), told(x))
	}
}

// 3.9: Parse rises with the number that is said.
func TestParseRises(t *testing.T) {
	type said struct {
		text   string
		number *big.Rat
	}
	var l []said
	r := rand.New(rand.NewSource(6))
	for _, x := range []float64{1, 0.1, least, leastNormal, greatest, 4 * least, 1e22, -2.5, -leastNormal, 0} {
		middle := new(big.Rat).Add(ratOf(x), ratOf(math.Nextafter(x, 0)))
		middle.Quo(middle, big.NewRat(2, 1))
		for range 60 {
			s := decimalText(middle)
			if !strings.Contains(s, ".") {
				s += "."
			}
			s += strings.Repeat("0", r.Intn(30)) + "5"
			if cut := r.Intn(len(s)); cut > 0 && s[cut-1] != '.' && s[:cut] != "-" {
				s = s[:cut]
			}
			number, ok := new(big.Rat).SetString(s)
			if !ok {
				t.Fatal(s)
			}
			l = append(l, said{s, number})
		}
	}
	sort.Slice(l, func(i, j int) bool { return l[i].number.Cmp(l[j].number) < 0 })
	for i := range len(l) - 1 {
		x, _ := digits.Parse(l[i].text)
		y, _ := digits.Parse(l[i+1].text)
		x32, _ := digits.Parse32(l[i].text)
		y32, _ := digits.Parse32(l[i+1].text)
		if !(x <= y) || !(x32 <= y32) {
			t.Errorf("Parse falls from %s to %s", short(l[i].text), short(l[i+1].text))
		}
	}
}

// 3.9: blanks, + and empty parts are taken nowhere.
func TestNothingElseIsTaken(t *testing.T) {
	for _, s := range []string{"-1.5e-3", "inf", "nan", "-inf", "12"} {
		for i := range len(s) + 1 {
			for _, c := range []string{" ", "+", "\t", "\n", "_", ",", "\u00a0"} {
				broken := s[:i] + c + s[i:]
				want(t, "Parse of "+broken, tell(digits.Parse(broken)), api.ErrForm.Error())
				want(t, "Parse32 of "+broken, tell32(digits.Parse32(broken)), api.ErrForm.Error())
			}
		}
	}
	for _, s := range []string{"-.5e-3", "-1.e-3", "-1.5e-", "-1.5e", "e-3", ".", "-", ""} {
		want(t, "Parse of "+s, tell(digits.Parse(s)), api.ErrForm.Error())
	}
}

// 3.10: the text of a small float, widened, has at least as many digits as its own.
func TestWidened(t *testing.T) {
	for _, x := range manySmall(5000) {
		if small, wide := digits.Text32(x), digits.Text(float.Widen(x)); countDigits(wide) < countDigits(small) {
			t.Errorf("%s has more digits than %s", small, wide)
		}
	}
}
