package whole

import "math/bits"

// GCD is the greatest number that divides both; of 0 and another one that other one.
//
// It goes by Lehmer's way: many of Euclid's steps are found from the first words alone, and done at once on the whole numbers.
func (a Nat) GCD(b Nat) Nat {
	if a.Cmp(b) < 0 {
		a, b = b, a
	}
	if len(b.words) > 1 { // the steps are done in place
		a, b = a.copied(), b.copied()
	}
	for len(b.words) > 1 {
		s := foresee(a.words, b.words)
		if s.x1 == 0 {
			_, rest := a.DivMod(b)
			a, b = b, rest
			continue
		}
		a, b = s.apply(a.words, b.words)
	}
	if b.IsZero() {
		return a
	}
	_, rest := a.DivMod(b)
	return Of(commonWord(b.words[0], rest.Word()))
}

func (a Nat) copied() Nat {
	words := make([]uint64, len(a.words))
	copy(words, a.words)
	return Nat{words}
}

func commonWord(x, y uint64) uint64 {
	for y != 0 {
		x, y = y, x%y
	}
	return x
}

// steps are some of Euclid's steps at once, on x and y: x becomes x0 x - y0 y, y becomes y1 y - x1 x; if odd, both with the other sign.
type steps struct {
	x0, y0, x1, y1 uint64
	odd            bool
}

// foresee follows Euclid on the first word of x, and on what stands in y at the same place, as long as the words that are left out cannot change a quotient (Collins' condition). x is not below y, and both have at least two words. If it is not sure of any step, x1 is 0.
func foresee(x, y []uint64) steps {
	n := len(x)
	if len(y) < n-1 {
		return steps{}
	}
	shift := bits.LeadingZeros64(x[n-1])
	a := x[n-1]<<shift | x[n-2]>>(wordBits-shift)
	b := y[n-2] >> (wordBits - shift)
	if len(y) == n {
		b |= y[n-1] << shift
	}
	s := steps{x0: 1, y1: 1}
	var x2, y2 uint64
	for {
		if b == 0 {
			return s
		}
		q := a / b
		a, b = b, a%b
		x2, y2 = s.x0+q*s.x1, s.y0+q*s.y1
		if b < y2 || a-b < s.y1+y2 {
			return s
		}
		s = steps{s.x1, s.y1, x2, y2, !s.odd}
	}
}

// apply does the steps in place.
func (s steps) apply(x, y []uint64) (Nat, Nat) {
	if len(y) < len(x) {
		y = append(y, 0)
	}
	if s.odd {
		mix(y, x, s.y0, s.x0, s.y1, s.x1)
		return trim(y), trim(x)
	}
	mix(x, y, s.x0, s.y0, s.x1, s.y1)
	return trim(x), trim(y)
}

// mix makes x and y of the same length p x - q y and s y - r x.
func mix(x, y []uint64, p, q, r, s uint64) {
	var carryP, carryQ, carryR, carryS, borrowX, borrowY uint64
	for i := range len(x) {
		var px, qy, rx, sy uint64
		px, carryP = multiplyAdd(x[i], p, carryP)
		qy, carryQ = multiplyAdd(y[i], q, carryQ)
		rx, carryR = multiplyAdd(x[i], r, carryR)
		sy, carryS = multiplyAdd(y[i], s, carryS)
		x[i], borrowX = bits.Sub64(px, qy, borrowX)
		y[i], borrowY = bits.Sub64(sy, rx, borrowY)
	}
}

// multiplyAdd is the low and the high word of x y + z.
func multiplyAdd(x, y, z uint64) (uint64, uint64) {
	high, low := bits.Mul64(x, y)
	low, over := bits.Add64(low, z, 0)
	return low, high + over
}
