package whole

import "math/bits"

// From so many words on, three products of halves are faster than one of wholes.
const splitWords = 80

// Mul is a times b.
func (a Nat) Mul(b Nat) Nat {
	if len(a.words) < len(b.words) {
		a, b = b, a
	}
	half := (len(a.words) + 1) / 2
	switch {
	case len(b.words) < splitWords:
		return a.mulPlainly(b)
	case len(b.words) <= half:
		return a.mulPiecewise(b, half)
	}
	return a.mulByHalves(b, half)
}

func (a Nat) mulPlainly(b Nat) Nat {
	n := len(a.words)
	product := make([]uint64, n+len(b.words))
	for i, w := range b.words {
		product[i+n] = addProduct(product[i:i+n], a.words, w)
	}
	return trim(product)
}

// addProduct adds the words times a factor to sum, which has as many, and answers what is carried out of it.
func addProduct(sum, words []uint64, factor uint64) uint64 {
	var carry uint64
	for i, w := range words {
		high, low := bits.Mul64(w, factor)
		low, over := bits.Add64(low, sum[i], 0)
		high += over
		low, over = bits.Add64(low, carry, 0)
		sum[i], carry = low, high+over
	}
	return carry
}

// mulPiecewise cuts a alone, since b is too short to be cut.
func (a Nat) mulPiecewise(b Nat, half int) Nat {
	low, high := a.cut(half)
	product := make([]uint64, len(a.words)+len(b.words))
	copy(product, low.Mul(b).words)
	addInto(product[half:], high.Mul(b).words)
	return trim(product)
}

// mulByHalves is Karatsuba's: what lies in the middle is the product of the sums less both other products.
func (a Nat) mulByHalves(b Nat, half int) Nat {
	aLow, aHigh := a.cut(half)
	bLow, bHigh := b.cut(half)
	low, high := aLow.Mul(bLow), aHigh.Mul(bHigh)
	middle := aLow.Add(aHigh).Mul(bLow.Add(bHigh)).Sub(low).Sub(high)
	product := make([]uint64, len(a.words)+len(b.words))
	copy(product, low.words)
	copy(product[2*half:], high.words)
	addInto(product[half:], middle.words)
	return trim(product)
}

// cut answers the lowest n words and the others, a having at least n.
func (a Nat) cut(n int) (Nat, Nat) {
	return trim(a.words[:n]), trim(a.words[n:])
}

// Pow is a to the n, n being not below 0; 1, if n is 0.
func (a Nat) Pow(n int) Nat {
	power := Of(1)
	for i := range bits.Len(uint(n)) {
		power = power.Mul(power)
		if n>>(bits.Len(uint(n))-1-i)&1 == 1 {
			power = power.Mul(a)
		}
	}
	return power
}
