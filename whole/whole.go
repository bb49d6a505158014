// Package whole reckons with whole numbers from nought on, of any size: what the exact layers are made of.
package whole

import (
	"math/bits"
	"slices"
)

const wordBits = 64

// Nat is a whole number from nought on: words of 64 bits, the lowest one first.
// The last word is not 0 (nought has none), so each number has one form.
// The words of a Nat that was answered are never written to, so that several may share them.
type Nat struct {
	words []uint64
}

// Of is the number x.
func Of(x uint64) Nat {
	return trim([]uint64{x})
}

// OfWords is the number of these words, the lowest one first.
func OfWords(words []uint64) Nat {
	return trim(slices.Clone(words))
}

// Words are a's words, the lowest one first, as many as it needs.
func (a Nat) Words() []uint64 {
	return slices.Clone(a.words)
}

func trim(words []uint64) Nat {
	n := len(words)
	for n > 0 && words[n-1] == 0 {
		n--
	}
	return Nat{words[:n]}
}

// IsZero tells whether a is 0.
func (a Nat) IsZero() bool { return len(a.words) == 0 }

// IsOne tells whether a is 1.
func (a Nat) IsOne() bool { return len(a.words) == 1 && a.words[0] == 1 }

// IsOdd tells whether a is odd.
func (a Nat) IsOdd() bool { return len(a.words) > 0 && a.words[0]&1 == 1 }

// Word is a's lowest word: a itself, if a is below 2 to the 64.
func (a Nat) Word() uint64 {
	if a.IsZero() {
		return 0
	}
	return a.words[0]
}

// BitLen is how many binary digits a has; 0 has none.
func (a Nat) BitLen() int {
	n := len(a.words)
	if n == 0 {
		return 0
	}
	return n*wordBits - bits.LeadingZeros64(a.words[n-1])
}

// TrailingZeros is how often 2 divides a, which is not 0.
func (a Nat) TrailingZeros() int {
	n := 0
	for a.words[n] == 0 {
		n++
	}
	return n*wordBits + bits.TrailingZeros64(a.words[n])
}

// Cmp is -1, 0 or 1: a is below b, is b, is above b.
func (a Nat) Cmp(b Nat) int {
	n := len(a.words)
	if n != len(b.words) {
		return order(n < len(b.words))
	}
	for i := range n {
		x, y := a.words[n-1-i], b.words[n-1-i]
		if x != y {
			return order(x < y)
		}
	}
	return 0
}

func order(below bool) int {
	if below {
		return -1
	}
	return 1
}

// Add is a + b.
func (a Nat) Add(b Nat) Nat {
	if len(a.words) < len(b.words) {
		a, b = b, a
	}
	sum := make([]uint64, len(a.words)+1)
	copy(sum, a.words)
	addInto(sum, b.words)
	return trim(sum)
}

// addInto adds the words to sum, which has at least as many, and answers what is carried out of it.
func addInto(sum, words []uint64) uint64 {
	var carry uint64
	for i, w := range words {
		sum[i], carry = bits.Add64(sum[i], w, carry)
	}
	for i := len(words); i < len(sum) && carry > 0; i++ {
		sum[i], carry = bits.Add64(sum[i], 0, carry)
	}
	return carry
}

// Sub is a - b, b being not above a.
func (a Nat) Sub(b Nat) Nat {
	rest := make([]uint64, len(a.words))
	copy(rest, a.words)
	var borrow uint64
	for i, w := range b.words {
		rest[i], borrow = bits.Sub64(rest[i], w, borrow)
	}
	for i := len(b.words); i < len(rest) && borrow > 0; i++ {
		rest[i], borrow = bits.Sub64(rest[i], 0, borrow)
	}
	return trim(rest)
}

// ShiftLeft is a times 2 to the n.
func (a Nat) ShiftLeft(n int) Nat {
	if a.IsZero() {
		return a
	}
	shifted := make([]uint64, n/wordBits+len(a.words)+1)
	shiftInto(shifted[n/wordBits:], a.words, n%wordBits)
	return trim(shifted)
}

// shiftInto puts the words, shifted up by less than a word, into shifted, which has one word more.
func shiftInto(shifted, words []uint64, n int) {
	var low uint64
	for i, w := range words {
		shifted[i] = w<<n | low
		low = w >> (wordBits - n)
	}
	shifted[len(words)] = low
}

// ShiftRight is a by 2 to the n, rounded down.
func (a Nat) ShiftRight(n int) Nat {
	if n >= a.BitLen() {
		return Nat{}
	}
	shifted := Nat{a.words[n/wordBits:]}.copied()
	shiftDown(shifted.words, n%wordBits)
	return trim(shifted.words)
}
