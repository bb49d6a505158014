package whole

import "math/bits"

// DivMod is a by b, rounded down, and what is left; b is not 0.
func (a Nat) DivMod(b Nat) (Nat, Nat) {
	if a.Cmp(b) < 0 {
		return Nat{}, a
	}
	if len(b.words) == 1 {
		quotient := make([]uint64, len(a.words))
		copy(quotient, a.words)
		rest := divideByWord(quotient, b.words[0])
		return trim(quotient), Of(rest)
	}
	return a.divideLong(b)
}

// divideByWord makes the words their quotient, and answers what is left.
func divideByWord(words []uint64, divisor uint64) uint64 {
	var rest uint64
	for i := range len(words) {
		at := len(words) - 1 - i
		words[at], rest = bits.Div64(rest, words[at], divisor)
	}
	return rest
}

// divideLong is Knuth's long division: both are shifted up, so that the divisor's first bit is set and a word of the quotient can be told from the first words alone, but for 2 at most.
func (a Nat) divideLong(b Nat) (Nat, Nat) {
	n := len(b.words)
	shift := bits.LeadingZeros64(b.words[n-1])
	divisor := make([]uint64, n+1)
	shiftInto(divisor, b.words, shift)
	rest := make([]uint64, len(a.words)+1)
	shiftInto(rest, a.words, shift)
	quotient := make([]uint64, len(rest)-n)
	for i := range len(quotient) {
		at := len(quotient) - 1 - i
		quotient[at] = divideStep(rest[at:at+n+1], divisor[:n])
	}
	shiftDown(rest[:n], shift)
	return trim(quotient), trim(rest[:n])
}

// divideStep answers the quotient's next word, and leaves in rest, which has one word more than the divisor, what is left.
func divideStep(rest, divisor []uint64) uint64 {
	n := len(divisor)
	word := guessWord(rest[n], rest[n-1], rest[n-2], divisor[n-1], divisor[n-2])
	rest[n] -= subProduct(rest[:n], divisor, word)
	for rest[n] != 0 { // the word was too great: what is left went below nought, and the topmost word wrapped round
		word--
		rest[n] += addInto(rest[:n], divisor)
	}
	return word
}

// guessWord is the quotient's word, or one or two more, by the three topmost words of the rest and the two of the divisor.
func guessWord(rest2, rest1, rest0, divisor1, divisor0 uint64) uint64 {
	if rest2 >= divisor1 {
		return 1<<wordBits - 1
	}
	word, left := bits.Div64(rest2, rest1, divisor1)
	for {
		high, low := bits.Mul64(word, divisor0)
		if high < left || high == left && low <= rest0 {
			return word
		}
		word--
		left += divisor1
		if left < divisor1 { // it has left the word: nothing more can be told
			return word
		}
	}
}

// subProduct takes the words times a factor from rest, which has as many, and answers what is to be borrowed.
func subProduct(rest, words []uint64, factor uint64) uint64 {
	var carry uint64
	for i, w := range words {
		high, low := bits.Mul64(w, factor)
		low, over := bits.Add64(low, carry, 0)
		high += over
		var borrow uint64
		rest[i], borrow = bits.Sub64(rest[i], low, 0)
		carry = high + borrow
	}
	return carry
}

func shiftDown(words []uint64, n int) {
	var high uint64
	for i := range len(words) {
		at := len(words) - 1 - i
		w := words[at]
		words[at] = w>>n | high
		high = w << (wordBits - n)
	}
}
