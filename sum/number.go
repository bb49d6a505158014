package sum

import (
	"math/bits"

	"tontine/api"
	"tontine/exact"
	"tontine/whole"
)

// The binary places of a sum's number: the last one is that of the product of two of the least floats; each term is below 2 to the termBits; and countBits hold MaxTerms.
const (
	places    = 2 * 1074
	termBits  = 2 * 1024
	countBits = 41
	wordBits  = 64
	words     = (places + termBits + countBits + 1 + wordBits - 1) / wordBits // with one bit for the sign
)

// number is what finite terms come to, in units of 2 to the -places: a whole number in words of 64 bits, the lowest one first, below nought as two's complement. It has room for as many terms as there may be, so that nothing is ever carried out of it.
type number [words]uint64

// add adds a term. One that is no number counts as nought.
func (n *number) add(t term) {
	at, up := (t.exp+places)/wordBits, (t.exp+places)%wordBits
	var carry uint64
	for _, w := range [...]uint64{t.low << up, t.high<<up | t.low>>(wordBits-up), t.high >> (wordBits - up)} {
		n[at], carry = step(t.neg, n[at], w, carry)
		at++
	}
	for ; carry != 0 && at < words; at++ {
		n[at], carry = step(t.neg, n[at], 0, carry)
	}
}

// step is a word of a sum, or of a difference, if neg, and what is carried on to the next one.
func step(neg bool, x, y, carry uint64) (uint64, uint64) {
	if neg {
		return bits.Sub64(x, y, carry)
	}
	return bits.Add64(x, y, carry)
}

func (n number) plus(m number) number {
	var carry uint64
	for i := range n {
		n[i], carry = bits.Add64(n[i], m[i], carry)
	}
	return n
}

func (n number) negated() number {
	var borrow uint64
	for i := range n {
		n[i], borrow = bits.Sub64(0, n[i], borrow)
	}
	return n
}

// split tells whether n is below nought, and its size.
func (n number) split() (bool, whole.Nat) {
	neg := n[words-1]>>(wordBits-1) == 1
	if neg {
		n = n.negated()
	}
	return neg, whole.OfWords(n[:])
}

// ofSize is the number of that size, which has room in it, below nought if neg.
func ofSize(neg bool, size whole.Nat) number {
	var n number
	copy(n[:], size.Words())
	if neg {
		return n.negated()
	}
	return n
}

// ratio is n as an exact number.
func (n number) ratio() (api.Ratio, api.Errno) {
	neg, size := n.split()
	return exact.WriteScaled(neg, size, -places)
}
