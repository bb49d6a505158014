// Package tally is what the layers share that sum floats, or products of two, without error: terms of which nothing is rounded, and a number that is wide enough for all of them.
package tally

import (
	"math/bits"

	"tontine/api"
	"tontine/exact"
	"tontine/whole"
)

// The binary places of a number: the last one is that of the product of two of the least floats; each term is below 2 to the termBits; and countBits hold MaxTerms.
const (
	Places    = 2 * 1074
	termBits  = 2 * 1024
	countBits = 41
	wordBits  = 64
	words     = (Places + termBits + countBits + 1 + wordBits - 1) / wordBits // with one bit for the sign
)

// Number is what finite terms come to, in units of 2 to the -Places: a whole number in words of 64 bits, the lowest one first, below nought as two's complement. It has room for as many terms as a sum may have, so that nothing is ever carried out of it.
type Number [words]uint64

// Add adds a term. One that is no number counts as nought.
func (n *Number) Add(t Term) {
	at, up := (t.exp+Places)/wordBits, (t.exp+Places)%wordBits
	var carry uint64
	for _, w := range [...]uint64{t.low << up, t.high<<up | t.low>>(wordBits-up), t.high >> (wordBits - up)} {
		n[at], carry = step(t.Neg, n[at], w, carry)
		at++
	}
	for ; carry != 0 && at < words; at++ {
		n[at], carry = step(t.Neg, n[at], 0, carry)
	}
}

// step is a word of a sum, or of a difference, if neg, and what is carried on to the next one.
func step(neg bool, x, y, carry uint64) (uint64, uint64) {
	if neg {
		return bits.Sub64(x, y, carry)
	}
	return bits.Add64(x, y, carry)
}

// Plus is n + m.
func (n Number) Plus(m Number) Number {
	var carry uint64
	for i := range n {
		n[i], carry = bits.Add64(n[i], m[i], carry)
	}
	return n
}

func (n Number) negated() Number {
	var borrow uint64
	for i := range n {
		n[i], borrow = bits.Sub64(0, n[i], borrow)
	}
	return n
}

// Split tells whether n is below nought, and its size, in units.
func (n Number) Split() (bool, whole.Nat) {
	neg := n[words-1]>>(wordBits-1) == 1
	if neg {
		n = n.negated()
	}
	return neg, whole.OfWords(n[:])
}

// OfSize is the number of that size, in units, below nought if neg; or false, if it is greater than so many terms can come to.
func OfSize(neg bool, size whole.Nat, terms int) (Number, bool) {
	var n Number
	most := whole.Of(uint64(terms)).ShiftLeft(Places + termBits)
	if size.Cmp(most) > 0 {
		return n, false
	}
	copy(n[:], size.Words())
	if neg {
		n = n.negated()
	}
	return n, true
}

// Ratio is n as an exact number; of MaxTerms terms it is never too long.
func (n Number) Ratio() (api.Ratio, api.Errno) {
	neg, size := n.Split()
	return exact.WriteScaled(neg, size, -Places)
}
