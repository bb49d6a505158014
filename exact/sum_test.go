package exact

import (
	"math/big"
	"math/rand"
	"strings"
	"testing"

	"tontine/api"
	"tontine/whole"
)

// R1, R3: the first thing that is wrong with a list.
func TestReadAll(t *testing.T) {
	right, shape, long := api.Ratio{Num: "-3", Den: "7"}, api.Ratio{Num: "2", Den: "4"}, api.Ratio{Num: strings.Repeat("7", api.MaxDigits+1), Den: "1"}
	for _, c := range []struct {
		l    []api.Ratio
		most int
		e    api.Errno
	}{
		{nil, 0, api.OK}, {[]api.Ratio{right}, 1, api.OK}, {[]api.Ratio{right, right}, 2, api.OK}, {[]api.Ratio{right, right}, 1, api.ErrLong}, {[]api.Ratio{shape, shape}, 1, api.ErrLong},
		{[]api.Ratio{right, shape, long}, 3, api.ErrShape}, {[]api.Ratio{right, long, shape}, 3, api.ErrLong},
	} {
		l, e := ReadAll(c.l, c.most)
		if e != c.e || e != api.OK && l != nil || e == api.OK && len(l) != len(c.l) {
			t.Errorf("%d of at most %d: %d, %v", len(c.l), c.most, len(l), e)
		}
		for i, f := range l {
			if a, e := f.Ratio(); a != c.l[i] || e != api.OK {
				t.Errorf("%v comes back as %v, %v", c.l[i], a, e)
			}
		}
	}
}

// randomFraction has so many digits above and below.
func randomFraction(r *rand.Rand, digits int) *big.Rat {
	text := func() string {
		s := []byte{byte('1' + r.Intn(9))}
		for range digits - 1 {
			s = append(s, byte('0'+r.Intn(10)))
		}
		return string(s)
	}
	x, _ := new(big.Rat).SetString(text() + "/" + text())
	if r.Intn(2) == 0 {
		x.Neg(x)
	}
	return x
}

// Sums, by way of lowest terms; the order in which the parts stand tells nothing, and they stay in it.
func TestSum(t *testing.T) {
	r := rand.New(rand.NewSource(1))
	for n := range 40 {
		sum, parts := new(big.Rat), make([]Fraction, n)
		for i := range parts {
			x := randomFraction(r, 1+r.Intn(30))
			parts[i] = ofBig(x)
			sum.Add(sum, x)
		}
		was := toldAll(parts)
		got, ok := Sum(parts...)
		if !ok {
			t.Fatal(n, "parts are too long")
		}
		same(t, "sum", told(got), sum.String())
		same(t, "parts", toldAll(parts), was)
	}
}

func toldAll(l []Fraction) string {
	s := ""
	for _, f := range l {
		s += told(f) + " "
	}
	return s
}

// R2: sums whose parts have nothing in common are too long; such that come to something short are found, those that are only near to it are not.
func TestSumOfLongParts(t *testing.T) {
	r := rand.New(rand.NewSource(2))
	var parts []Fraction
	for range 12 {
		parts = append(parts, ofBig(randomFraction(r, 5000)))
	}
	if f, ok := Sum(parts...); ok {
		t.Errorf("a sum of long parts: %d bits", f.Den.BitLen())
	}
	if a, e := WriteSum(parts...); e != api.ErrLong || a != (api.Ratio{}) {
		t.Errorf("a sum of long parts: %v", e)
	}
	links, all := Fraction{Num: whole.Of(1), Den: whole.Of(7)}, []Fraction{}
	for _, f := range parts { // each is taken from the next one: all that is left is a seventh
		all = append(all, links.Plus(f.Negated()))
		links = f
	}
	all = append(all, links)
	for range 3 {
		r.Shuffle(len(all), func(i, j int) { all[i], all[j] = all[j], all[i] })
		if a, e := WriteSum(all...); e != api.OK || a != (api.Ratio{Num: "1", Den: "7"}) {
			t.Errorf("a sum of links: %v, %v", a.Num, e)
		}
	}
	all = append(all, OfInt(10).Power(-2*api.MaxDigits-200)) // so near that its first digits are a seventh's
	if _, e := WriteSum(all...); e != api.ErrLong {
		t.Errorf("a sum near to a seventh: %v", e)
	}
	if a, e := WriteSum(); e != api.OK || a != (api.Ratio{Num: "0", Den: "1"}) {
		t.Errorf("a sum of nothing: %v, %v", a, e)
	}
}

// units is the greatest whole number of units that is not above x.
func units(x *big.Rat) Fraction {
	f := ofBig(x)
	f.Num = f.Num.ShiftLeft(Places)
	n, _ := f.Floor()
	return n
}

// Short finds a fraction of most digits from its first digits, on both sides of nought; and none where there is none.
func TestShort(t *testing.T) {
	r := rand.New(rand.NewSource(3))
	for _, digits := range []int{1, 2, 20, 500, 2000, api.MaxDigits} {
		for range 4 {
			x := randomFraction(r, digits)
			for _, ahead := range []int{0, 1, 100} {
				got, ok := Short(units(x).Plus(OfInt(-ahead)), ahead+1)
				if !ok {
					t.Errorf("%d digits are not found", digits)
				}
				same(t, "what is short", told(got), x.String())
			}
		}
	}
	if got, ok := Short(OfInt(-1), 3); !ok || got.Sign() != 0 {
		t.Error("nought is not found")
	}
	for range 4 {
		if f, ok := Short(units(randomFraction(r, 2*api.MaxDigits)), 1); ok {
			t.Errorf("short, with %d bits below", f.Den.BitLen())
		}
	}
	if _, ok := Short(OfWhole(false, whole.Of(1).ShiftLeft(Places+MostBits)), 1); ok {
		t.Error("a whole number that is too long is short")
	}
}

// Simplest against a search through denominators.
func TestSimplest(t *testing.T) {
	for _, x := range small() {
		for _, y := range small() {
			if x.Cmp(y) > 0 {
				continue
			}
			wanted := ""
			for den := int64(1); wanted == ""; den++ {
				for size := int64(0); size <= 9*den && wanted == ""; size++ {
					for _, num := range []int64{size, -size} {
						if z := big.NewRat(num, den); z.Cmp(x) >= 0 && z.Cmp(y) <= 0 {
							wanted = z.String()
							break
						}
					}
				}
			}
			low, high := ofBig(x), ofBig(y)
			same(t, "simplest", told(Simplest(low, high)), wanted)
			low.Num, low.Den = low.Num.ShiftLeft(3), low.Den.ShiftLeft(3) // not in lowest terms
			same(t, "simplest", told(Simplest(low, high)), wanted)
		}
	}
}

// Convergents of 43/19, which has the terms 2 3 1 4.
func TestConvergents(t *testing.T) {
	c := NewConvergent()
	for i, wanted := range []string{"2/1", "7/3", "9/4", "43/19"} {
		c = c.Next(whole.Of([]uint64{2, 3, 1, 4}[i]))
		same(t, "convergent", told(c.Fraction()), wanted)
	}
}
