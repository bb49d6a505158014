package joint

import (
	"math/bits"

	"tontine/whole"
)

// few is how many lives there may be for their choices to be gone through one by one: products of more long numbers, for each choice anew, take too long.
const few = 4

// byNumber is, for 0, 1, 2 .. of the lives, the sum, over all choices of so many, of the product of in of each life that is chosen and out of each other one.
func byNumber(in, out []whole.Nat) []whole.Nat {
	if len(in) > few {
		half := len(in) / 2
		return together(byNumber(in[:half], out[:half]), byNumber(in[half:], out[half:]))
	}
	sums := make([]whole.Nat, len(in)+1)
	eachChoice(len(in), func(choice uint) {
		many := bits.OnesCount(choice)
		sums[many] = sums[many].Add(product(choice, in, out))
	})
	return sums
}

// eachChoice hands each choice of so many lives to a function: the life i is chosen, if the bit i is 1.
func eachChoice(lives int, do func(choice uint)) {
	for choice := range uint(1) << lives {
		do(choice)
	}
}

// product is that of in of each life that is chosen, and out of each other one.
func product(choice uint, in, out []whole.Nat) whole.Nat {
	p := natural(1)
	for i := range len(in) {
		if choice>>i&1 == 1 {
			p = p.Mul(in[i])
		} else {
			p = p.Mul(out[i])
		}
	}
	return p
}

// together is the sums of two groups of lives as one: each choice of the one goes with each of the other.
func together(first, second []whole.Nat) []whole.Nat {
	sums := make([]whole.Nat, len(first)+len(second)-1)
	for i, x := range first {
		for j, y := range second {
			sums[i+j] = sums[i+j].Add(x.Mul(y))
		}
	}
	return sums
}

// natural is n, which is not below 0.
func natural(n int) whole.Nat { return whole.Of(uint64(n)) }
