package whole

import (
	"strconv"
	"strings"
)

// A group of so many decimal digits is the longest that a word holds whatever they are.
const (
	groupDigits = 19
	groupUnit   = 10000000000000000000
)

// Parse is the number of a text of one decimal digit or more.
func Parse(digits string) Nat {
	words := make([]uint64, 0, len(digits)/groupDigits+1)
	for len(digits) > 0 {
		n := (len(digits)-1)%groupDigits + 1
		group, _ := strconv.ParseUint(digits[:n], 10, wordBits)
		digits = digits[n:]
		carry := group
		for i, w := range words {
			words[i], carry = multiplyAdd(w, groupUnit, carry)
		}
		if carry > 0 {
			words = append(words, carry)
		}
	}
	return trim(words)
}

// Text is a in decimal digits, without a 0 ahead (0 is 0).
func (a Nat) Text() string {
	if len(a.words) <= 1 {
		return strconv.FormatUint(a.Word(), 10)
	}
	digits := a.appendDigits(nil, ladder(a))
	return strings.TrimLeft(string(digits), "0")
}

// ladder is groupUnit to the 1, 2, 4 and so on, up to the last one that is not above a, but one at least.
func ladder(a Nat) []Nat {
	rungs := []Nat{Of(groupUnit)}
	for {
		top := rungs[len(rungs)-1]
		if 2*top.BitLen()-1 > a.BitLen() { // the square is longer than a
			return rungs
		}
		rungs = append(rungs, top.Mul(top))
	}
}

// Below so many rungs dividing by one group after the other is as fast as by halves.
const fewRungs = 4

// appendDigits puts the digits of a behind text, with noughts ahead, up to twice as many as the topmost rung has noughts; a is below the square of that rung. Halves are cut off by long division, which is faster for long numbers than dividing by one group after the other.
func (a Nat) appendDigits(text []byte, rungs []Nat) []byte {
	if len(rungs) < fewRungs {
		return a.appendGroups(text, 1<<len(rungs))
	}
	top := len(rungs) - 1
	high, low := a.DivMod(rungs[top])
	text = high.appendDigits(text, rungs[:top])
	return low.appendDigits(text, rungs[:top])
}

func (a Nat) appendGroups(text []byte, groups int) []byte {
	begin := len(text)
	text = append(text, make([]byte, groups*groupDigits)...)
	rest := a.copied().words
	for i := range groups {
		putGroup(text[begin+(groups-1-i)*groupDigits:], divideByWord(rest, groupUnit))
	}
	return text
}

func putGroup(text []byte, group uint64) {
	for i := range groupDigits {
		text[groupDigits-1-i] = byte('0' + group%10)
		group /= 10
	}
}
