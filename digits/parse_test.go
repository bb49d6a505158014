package digits_test

import (
	"fmt"
	"math"
	"math/big"
	"math/rand"
	"regexp"
	"strconv"
	"strings"
	"testing"

	"tontine/api"
	"tontine/digits"
)

// comesText is what a decimal text of a number comes to, as a float and as a small one.
func comesText(s string) (float64, float32) {
	r, ok := new(big.Rat).SetString(s)
	if !ok {
		panic(s)
	}
	x, _ := r.Float64()
	y, _ := r.Float32()
	if strings.HasPrefix(s, "-") {
		x, y = math.Copysign(x, -1), float32(math.Copysign(float64(y), -1))
	}
	return x, y
}

func wantBoth(t *testing.T, s string, x float64, y float32) {
	t.Helper()
	want(t, "Parse of "+s, tell(digits.Parse(s)), told(x))
	want(t, "Parse32 of "+s, tell32(digits.Parse32(s)), told32(y))
}

// 3.2: texts of all forms that a number may have.
func TestParse(t *testing.T) {
	r := rand.New(rand.NewSource(5))
	some := func(most int) string {
		s := ""
		for range 1 + r.Intn(most) {
			s += string("0123456789000999"[r.Intn(16)])
		}
		return s
	}
	for range 4000 {
		s := some(25)
		if r.Intn(2) == 0 {
			s += "." + some(25)
		}
		switch r.Intn(4) {
		case 0:
			s += "e" + some(2)
		case 1:
			s += "e-" + some(2)
		case 2:
			s += fmt.Sprintf("e%d", r.Intn(700)-370)
		}
		if r.Intn(3) == 0 {
			s = "-" + s
		}
		x, y := comesText(s)
		wantBoth(t, s, x, y)
	}
}

// 3.2: what stands for no number, and noughts with their sign.
func TestParseOthers(t *testing.T) {
	wantBoth(t, "nan", none, float32(none))
	wantBoth(t, "inf", inf, float32(inf))
	wantBoth(t, "-inf", -inf, float32(-inf))
	for _, s := range []string{"0", "00", "0.0", "0e5", "0e-5", "0.000e999", "000.000e-000", "0e99999999999999999999", "0e-99999999999999999999", strings.Repeat("0", api.MaxText)} {
		wantBoth(t, s, 0, 0)
	}
	for _, s := range []string{"-0", "-00", "-0.0", "-0e5", "-0.000e-999", "-0e99999999999999999999", "-" + strings.Repeat("0", api.MaxText-1)} {
		wantBoth(t, s, minus, float32(minus))
	}
}

// 3.2: texts that are no decimal text, each way in which they can be none.
func TestParseWrongForms(t *testing.T) {
	for _, s := range []string{"", "-", ".", "e", ".5", "5.", "-.5", "-5.", "1e", "1e-", "1.e5", ".e5", "e5", "-e5", "+1", "--1", "1-", "1+", "1e+5", "1e--5", "1e5-", "1e5.0", "1e5e5", "1ee5", "1.2.3", "1..2", "1.-2", "1-2",
		" 1", "1 ", "1 2", "\t1", "1\n", "1_000", "1,5", "1E5", "0x1p0", "0x10", "1f", "1x", "1.5x", "1e5x", "x", "\u0661", "1\u0662", "1.\u0663", "1\x00", "\x00", "\xff",
		"Inf", "INF", "+inf", "--inf", "inf ", " inf", "infinity", "in", "inf0", "-inf5", "NaN", "NAN", "-nan", "+nan", "nan0", "na", "nan ", "infe5", "inf.5", "nane5"} {
		want(t, "Parse of "+s, tell(digits.Parse(s)), api.ErrForm.Error())
		want(t, "Parse32 of "+s, tell32(digits.Parse32(s)), api.ErrForm.Error())
	}
}

// 3.2: all texts of few bytes: those that are of the form, and no other, are taken.
func TestParseForms(t *testing.T) {
	form := regexp.MustCompile(`^(nan|-?inf|-?[0-9]+(\.[0-9]+)?(e-?[0-9]+)?)$`)
	var all func(s string, left int)
	all = func(s string, left int) {
		_, e := digits.Parse(s)
		_, e32 := digits.Parse32(s)
		if is := form.MatchString(s); is != (e == api.OK) || e != e32 || !is && e != api.ErrForm {
			t.Errorf("%q: %v, %v", s, e, e32)
		}
		if left > 0 {
			for _, c := range "05-+.e n" {
				all(s+string(c), left-1)
			}
		}
	}
	all("", 5)
}

// 3.2: ErrLong comes ahead of ErrForm; MaxText bytes may be.
func TestParseLong(t *testing.T) {
	for _, s := range []string{strings.Repeat("1", api.MaxText+1), strings.Repeat("x", api.MaxText+1), "0." + strings.Repeat("0", api.MaxText), "-inf" + strings.Repeat(" ", api.MaxText)} {
		want(t, "Parse of too long a text", tell(digits.Parse(s)), api.ErrLong.Error())
		want(t, "Parse32 of too long a text", tell32(digits.Parse32(s)), api.ErrLong.Error())
	}
	want(t, "Parse of a long text of no form", tell(digits.Parse(strings.Repeat("x", api.MaxText))), api.ErrForm.Error())
	want(t, "Parse32 of a long text of no form", tell32(digits.Parse32(strings.Repeat("x", api.MaxText))), api.ErrForm.Error())
	want(t, "Parse of a long text with a fault at its end", tell(digits.Parse(strings.Repeat("1", api.MaxText-1)+"x")), api.ErrForm.Error())

	noughts := strings.Repeat("0", api.MaxText-20)
	wantBoth(t, noughts+"12.5", 12.5, 12.5)
	wantBoth(t, "-12.5"+noughts, -12.5, -12.5)
	wantBoth(t, noughts[:30000]+"12.5"+noughts[:30000], 12.5, 12.5)
	wantBoth(t, "1e"+noughts+"5", 100000, 100000)
	wantBoth(t, "1e-"+noughts+"1", 0.1, 0.1)
	wantBoth(t, "1"+noughts, inf, float32(inf))
	wantBoth(t, "-0."+noughts+"1", minus, float32(minus))
	// What the digits and the exponent say may be far from 1, each alone, and both together near it.
	wantBoth(t, "15"+noughts+fmt.Sprintf("e-%d", len(noughts)), 15, 15)
	wantBoth(t, "0."+noughts+fmt.Sprintf("25e%d", len(noughts)), 0.25, 0.25)
	wantBoth(t, "15"+noughts+fmt.Sprintf("e-%d", len(noughts)+400), 0, 0)
	wantBoth(t, "0."+noughts+fmt.Sprintf("25e%d", len(noughts)+400), inf, float32(inf))
	wantBoth(t, strings.Repeat("9", api.MaxText-7)+fmt.Sprintf("e-%d", api.MaxText-7), 1, 1)
	wantBoth(t, strings.Repeat("9", api.MaxText), inf, float32(inf))
}

// 3.2: exponents of very many digits.
func TestParseExponents(t *testing.T) {
	nines := strings.Repeat("9", api.MaxText-10)
	for _, power := range []string{"400", "401", "1000", "65536", "999999999", "1000000000", "1000000001", "2147483648", "4294967296", "4294967297", "9223372036854775807", "9223372036854775808", "18446744073709551616", "18446744073709551617", "99999999999999999999", "0000000000000000000000000000099999", nines} {
		wantBoth(t, "1e"+power, inf, float32(inf))
		wantBoth(t, "-0.001e"+power, -inf, float32(-inf))
		wantBoth(t, "1e-"+power, 0, 0)
		wantBoth(t, "-1000e-"+power, minus, float32(minus))
	}
	wantBoth(t, "1e0000000000000000000000000000000001", 10, 10)
	wantBoth(t, "1e-0", 1, 1)
	wantBoth(t, "1e00", 1, 1)
}

// 3.2: beyond the greatest one, and below half the least one above nought.
func TestParseEnds(t *testing.T) {
	for _, c := range []struct {
		s string
		x float64
	}{
		{"1.7976931348623157e308", greatest}, {"1.7976931348623158e308", greatest}, {"1.7976931348623159e308", inf}, {"1e309", inf}, {"-1e309", -inf}, {"1e308", 1e308}, {"0.00001e313", 1e308}, {"0.1e310", inf},
		{"5e-324", least}, {"3e-324", least}, {"2.5e-324", least}, {"2.4e-324", 0}, {"-2.4e-324", minus}, {"2e-324", 0}, {"1e-324", 0}, {"1e-325", 0}, {"7.4e-324", least}, {"7.5e-324", 2 * least}, {"500e-326", least},
		{"2.2250738585072014e-308", leastNormal}, {"2.2250738585072011e-308", math.Nextafter(leastNormal, 0)}, {"2.2250738585072009e-308", math.Nextafter(leastNormal, 0)},
	} {
		want(t, "Parse of "+c.s, tell(digits.Parse(c.s)), told(c.x))
	}
	for _, c := range []struct {
		s string
		x float32
	}{
		{"3.4028235e38", greatest32}, {"3.4028235677973367e38", float32(inf)}, {"3.4028235677973366e38", greatest32}, {"-3.5e38", float32(-inf)}, {"1e39", float32(inf)}, {"1e300", float32(inf)}, {"1e400", float32(inf)},
		{"1e-45", least32}, {"7.1e-46", least32}, {"7.0e-46", 0}, {"-7.0e-46", float32(minus)}, {"1e-46", 0}, {"1e-300", 0}, {"1.1754943e-38", leastNormal32},
	} {
		want(t, "Parse32 of "+c.s, tell32(digits.Parse32(c.s)), told32(c.x))
	}
}

// beside are the texts of a number and of numbers just below and just above it, nearer than a float can tell.
func beside(r *big.Rat) [3]string {
	at := decimalText(r)
	below := new(big.Rat).Sub(r, power(-1090))
	if strings.Contains(at, ".") {
		return [3]string{below.FloatString(1090), at, at + strings.Repeat("0", 1200) + "1"}
	}
	return [3]string{below.FloatString(1090), at, at + "." + strings.Repeat("0", 60000) + "1"}
}

// 3.2: texts just at, below and above the middle of two neighbours.
func TestParseMiddles(t *testing.T) {
	for _, x := range manyFloats(40) {
		up := math.Nextafter(x, inf)
		if !isFinite(x) || math.Signbit(x) || !isFinite(up) {
			continue
		}
		middle := new(big.Rat).Add(ratOf(x), ratOf(up))
		middle.Quo(middle, big.NewRat(2, 1))
		even := x
		if math.Float64bits(x)%2 == 1 {
			even = up
		}
		texts := beside(middle)
		for i, wanted := range []float64{x, even, up} {
			want(t, "Parse of "+texts[i], tell(digits.Parse(texts[i])), told(wanted))
			want(t, "Parse of -"+texts[i], tell(digits.Parse("-"+texts[i])), told(-wanted))
		}
	}
	// Half way from the greatest one to what would come next the infinite one begins.
	texts := beside(new(big.Rat).SetInt(new(big.Int).Sub(new(big.Int).Lsh(big.NewInt(1), 1024), new(big.Int).Lsh(big.NewInt(1), 970))))
	for i, wanted := range []float64{greatest, inf, inf} {
		want(t, "Parse of "+texts[i], tell(digits.Parse(texts[i])), told(wanted))
	}
}

// 3.2: the same of small floats. By way of a float what is just beside the middle would come to the middle first, and then to the even one.
func TestParse32Middles(t *testing.T) {
	other := 0
	for _, x := range manySmall(40) {
		up := math.Nextafter32(x, float32(inf))
		if !isFinite(float64(x)) || math.Signbit(float64(x)) || !isFinite(float64(up)) {
			continue
		}
		middle := new(big.Rat).Add(ratOf(float64(x)), ratOf(float64(up)))
		middle.Quo(middle, big.NewRat(2, 1))
		even := x
		if math.Float32bits(x)%2 == 1 {
			even = up
		}
		texts := beside(middle)
		for i, wanted := range []float32{x, even, up} {
			want(t, "Parse32 of "+texts[i], tell32(digits.Parse32(texts[i])), told32(wanted))
			want(t, "Parse32 of -"+texts[i], tell32(digits.Parse32("-"+texts[i])), told32(-wanted))
			if byWay, _ := digits.Parse(texts[i]); float32(byWay) != wanted {
				other++
			}
		}
	}
	if other == 0 {
		t.Error("no text tells rounding once from rounding by way of a float")
	}
	want(t, "Parse32", tell32(digits.Parse32("16777217.000000001")), told32(16777218))
	want(t, "Parse32", tell32(digits.Parse32("16777218.999999999")), told32(16777218))
	texts := beside(new(big.Rat).SetInt(new(big.Int).Sub(new(big.Int).Lsh(big.NewInt(1), 128), new(big.Int).Lsh(big.NewInt(1), 103))))
	for i, wanted := range []float32{greatest32, float32(inf), float32(inf)} {
		want(t, "Parse32 of "+texts[i], tell32(digits.Parse32(texts[i])), told32(wanted))
	}
}

// 3.2: the library's reader says the same of texts that it takes, too.
func TestParseAsTheLibrary(t *testing.T) {
	for _, x := range manyFloats(100) {
		for _, count := range []int{0, 5, 15, 16, 17, 30, 800, 820} {
			s := strings.ReplaceAll(strconv.FormatFloat(x, 'e', count, 64), "e+", "e")
			if !isFinite(x) {
				continue
			}
			y, _ := strconv.ParseFloat(s, 64)
			want(t, "Parse of "+s, tell(digits.Parse(s)), told(y))
			z, _ := strconv.ParseFloat(s, 32)
			want(t, "Parse32 of "+s, tell32(digits.Parse32(s)), told32(float32(z)))
		}
	}
}
