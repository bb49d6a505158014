package whole

import (
	"math/big"
	"math/rand"
	"strings"
	"testing"
)

// sample answers a number of so many words; every other one has long runs of set and unset bits, where carries and guesses go wrong first.
func sample(r *rand.Rand, words int) Nat {
	n := make([]uint64, words)
	for i := range n {
		n[i] = r.Uint64()
		if r.Intn(2) == 0 {
			n[i] = []uint64{0, 1, 1 << 63, 1<<64 - 1, 1<<64 - 2, 1<<63 - 1}[r.Intn(6)]
		}
	}
	return trim(n)
}

func toBig(a Nat) *big.Int {
	x := new(big.Int)
	for i := range len(a.words) {
		x.Lsh(x, wordBits)
		x.Or(x, new(big.Int).SetUint64(a.words[len(a.words)-1-i]))
	}
	return x
}

func same(t *testing.T, what string, got Nat, want *big.Int) {
	t.Helper()
	if toBig(got).Cmp(want) != 0 || len(got.words) > 0 && got.words[len(got.words)-1] == 0 {
		t.Fatalf("%s: %x, want %x", what, toBig(got), want)
	}
}

// pairs hands pairs of numbers of many sizes to check, unlike sizes too.
func pairs(check func(a, b Nat)) {
	r := rand.New(rand.NewSource(1))
	sizes := []int{0, 1, 1, 2, 3, 5, 17, splitWords - 1, splitWords, splitWords + 1, 2*splitWords - 1, 2*splitWords + 3, 300}
	for range 3 {
		for _, m := range sizes {
			for _, n := range sizes {
				check(sample(r, m), sample(r, n))
			}
		}
	}
}

func TestAddSubMulCmp(t *testing.T) {
	pairs(func(a, b Nat) {
		x, y := toBig(a), toBig(b)
		same(t, "Add", a.Add(b), new(big.Int).Add(x, y))
		same(t, "Mul", a.Mul(b), new(big.Int).Mul(x, y))
		if got, want := a.Cmp(b), x.Cmp(y); got != want {
			t.Fatalf("Cmp of %x and %x: %d", x, y, got)
		}
		if a.Cmp(b) >= 0 {
			same(t, "Sub", a.Sub(b), new(big.Int).Sub(x, y))
		}
		same(t, "what was handed in", a, x)
		same(t, "what was handed in", b, y)
	})
}

func TestMulOfLongAndShort(t *testing.T) {
	r := rand.New(rand.NewSource(2))
	for _, n := range []int{splitWords, splitWords + 1, 200, 333, 999} {
		a, b := sample(r, 1000), sample(r, n)
		same(t, "Mul", b.Mul(a), new(big.Int).Mul(toBig(a), toBig(b)))
	}
}

func TestDivMod(t *testing.T) {
	pairs(func(a, b Nat) {
		for _, n := range []Nat{a, a.Mul(b), a.Mul(b).Add(a)} {
			if b.IsZero() {
				continue
			}
			q, m := n.DivMod(b)
			x, y := new(big.Int).QuoRem(toBig(n), toBig(b), new(big.Int))
			same(t, "quotient", q, x)
			same(t, "rest", m, y)
		}
	})
}

// TestDivModTopWord: the rest's topmost word is the divisor's, so that no word can be guessed from it.
func TestDivModTopWord(t *testing.T) {
	top := uint64(1 << 63)
	for _, low := range []uint64{0, 1, 1<<64 - 1} {
		for _, mid := range []uint64{0, 1, 1<<64 - 1} {
			b := trim([]uint64{low, mid, top})
			a := trim([]uint64{0, low, mid, top, top - 1})
			c := b.ShiftLeft(64).Sub(Of(1))
			for _, n := range []Nat{a, c, a.Add(c)} {
				q, m := n.DivMod(b)
				x, y := new(big.Int).QuoRem(toBig(n), toBig(b), new(big.Int))
				same(t, "quotient", q, x)
				same(t, "rest", m, y)
			}
		}
	}
}

func TestGCD(t *testing.T) {
	r := rand.New(rand.NewSource(3))
	pairs(func(a, b Nat) {
		c := sample(r, r.Intn(6))
		for _, p := range [][2]Nat{{a, b}, {a.Mul(c), b.Mul(c)}, {a, a.Mul(c)}, {a, a.Add(Of(1))}} {
			x, y := toBig(p[0]), toBig(p[1])
			same(t, "GCD", p[0].GCD(p[1]), new(big.Int).GCD(nil, nil, x, y))
			same(t, "what was handed in", p[0], x)
			same(t, "what was handed in", p[1], y)
		}
	})
}

// TestGCDOfSmallQuotients: of two neighbours of Fibonacci's row Euclid takes the most steps.
func TestGCDOfSmallQuotients(t *testing.T) {
	a, b := Of(1), Of(1)
	for range 3000 {
		a, b = b, a.Add(b)
	}
	if !a.GCD(b).IsOne() {
		t.Fatal("neighbours have a divisor")
	}
	if a.Mul(b).GCD(b.Mul(b)).Cmp(b) != 0 {
		t.Fatal("the common factor was lost")
	}
}

func TestShiftPowBits(t *testing.T) {
	pairs(func(a, b Nat) {
		n, x := len(b.words)*7+1, toBig(a)
		same(t, "ShiftLeft", a.ShiftLeft(n), new(big.Int).Lsh(toBig(a), uint(n)))
		same(t, "ShiftLeft by words", a.ShiftLeft(128), new(big.Int).Lsh(toBig(a), 128))
		for _, k := range []int{0, 1, n, 64, 128, a.BitLen() - 1, a.BitLen(), a.BitLen() + 70} {
			if k >= 0 {
				same(t, "ShiftRight", a.ShiftRight(k), new(big.Int).Rsh(toBig(a), uint(k)))
			}
		}
		same(t, "what was handed in", a, x)
		if low := new(big.Int).And(toBig(a), new(big.Int).SetUint64(1<<64-1)); a.Word() != low.Uint64() {
			t.Fatalf("the lowest word of %x: %x", toBig(a), a.Word())
		}
		if !a.IsZero() && a.ShiftLeft(n).TrailingZeros() != n+int(toBig(a).TrailingZeroBits()) {
			t.Fatalf("noughts behind %x", toBig(a))
		}
		if a.BitLen() != toBig(a).BitLen() || a.IsOdd() != (toBig(a).Bit(0) == 1) {
			t.Fatalf("bits of %x", toBig(a))
		}
		if len(a.words) < 6 {
			m := len(b.words)
			same(t, "Pow", a.Pow(m), new(big.Int).Exp(toBig(a), big.NewInt(int64(m)), nil))
		}
	})
	if !Of(0).IsZero() || Of(1).IsZero() || !Of(1).IsOne() || Of(2).IsOne() || Of(0).IsOne() {
		t.Error("nought and one are mistaken")
	}
}

func TestWords(t *testing.T) {
	pairs(func(a, b Nat) {
		x := toBig(a)
		words := a.Words()
		room := append(append([]uint64{}, words...), 0, 0)
		c := OfWords(room)
		same(t, "OfWords of Words", c, x)
		for i := range words {
			words[i], room[i] = 0, 0
		}
		same(t, "whose words were taken", a, x)
		same(t, "what was made of words that changed", c, x)
	})
	if !OfWords(nil).IsZero() || !OfWords([]uint64{0, 0}).IsZero() || len(Of(0).Words()) != 0 {
		t.Error("nought has words")
	}
	same(t, "OfWords", OfWords([]uint64{5, 1}), new(big.Int).Add(new(big.Int).Lsh(big.NewInt(1), 64), big.NewInt(5)))
}

func TestTexts(t *testing.T) {
	check := func(x *big.Int) {
		t.Helper()
		a := Parse(x.String())
		same(t, "Parse", a, x)
		if a.Text() != x.String() {
			t.Fatalf("Text: %s, want %s", a.Text(), x)
		}
	}
	pairs(func(a, b Nat) { check(toBig(a)) })
	ten := big.NewInt(10)
	for n := range 200 {
		power := new(big.Int).Exp(ten, big.NewInt(int64(n)), nil)
		check(power)
		check(new(big.Int).Sub(power, big.NewInt(1)))
		check(new(big.Int).Add(power, big.NewInt(1)))
	}
	same(t, "Parse with noughts ahead", Parse(strings.Repeat("0", 100)+"7"), big.NewInt(7))
}

func benchPair() (Nat, Nat) {
	r := rand.New(rand.NewSource(4))
	text := func() string {
		s := []byte{'1'}
		for range 4095 {
			s = append(s, byte('0'+r.Intn(10)))
		}
		return string(s)
	}
	return Parse(text()), Parse(text())
}

func BenchmarkGCD(b *testing.B) {
	x, y := benchPair()
	for b.Loop() {
		x.GCD(y)
	}
}

func BenchmarkMul(b *testing.B) {
	x, y := benchPair()
	for b.Loop() {
		x.Mul(y)
	}
}

func BenchmarkParse(b *testing.B) {
	x, _ := benchPair()
	s := x.Text()
	for b.Loop() {
		Parse(s)
	}
}

func BenchmarkText(b *testing.B) {
	x, _ := benchPair()
	for b.Loop() {
		x.Text()
	}
}
