package digits

import (
	"strconv"
	"strings"

	"tontine/api"
	"tontine/exact"
	"tontine/whole"
)

// decimal is 0.d1d2..dk times 10 to the point, d1 and dk no 0. Nought has no digits, and its point behind the one 0 that is written.
type decimal struct {
	digits string
	point  int
}

func nought() decimal { return decimal{point: 1} }

// ofDigits is the decimal of a whole number's digits times 10 to the exp.
func ofDigits(digits string, exp int) decimal {
	return decimal{strings.TrimRight(digits, "0"), len(digits) + exp}
}

// expansion is the size of a finite float, with all digits that it has.
func expansion(p api.Parts) decimal {
	size := whole.Of(p.Mant)
	switch {
	case size.IsZero():
		return nought()
	case p.Exp >= 0:
		return ofDigits(size.ShiftLeft(p.Exp).Text(), 0)
	}
	// m by 2 to the k is m times 5 to the k, by 10 to the k.
	return ofDigits(size.Mul(whole.Of(5).Pow(-p.Exp)).Text(), p.Exp)
}

// places is how many digits stand behind the point.
func (d decimal) places() int {
	return max(len(d.digits)-d.point, 0)
}

// rounded is d, which is the size of a number below nought, if neg, rounded by the way to a multiple of 10 to the point - keep: so many digits stay, if d has more. What comes to nought has no digits.
func (d decimal) rounded(keep int, neg bool, way int) decimal {
	if keep < 0 { // the first digit that stays is ahead of the first one that there is
		d = decimal{strings.Repeat("0", -keep) + d.digits, d.point - keep}
		keep = 0
	}
	if keep >= len(d.digits) {
		return d
	}
	kept, rest := d.digits[:keep], d.digits[keep:]
	odd := keep > 0 && (kept[keep-1]-'0')%2 == 1
	if exact.IsAway(neg, odd, strings.Compare(rest, "5"), way) {
		return decimal{kept, d.point}.oneMore()
	}
	return decimal{strings.TrimRight(kept, "0"), d.point}
}

// oneMore is d with one added in the place of its last digit.
func (d decimal) oneMore() decimal {
	digits := strings.TrimRight(d.digits, "9")
	if digits == "" {
		return decimal{"1", d.point + 1}
	}
	last := len(digits) - 1
	return decimal{digits[:last] + string(digits[last]+1), d.point}
}

// plain is d with its point, and so many digits behind it.
func (d decimal) plain(places int) string {
	next := d.handOut(max(1-d.point, 0)) // 0 stands ahead of the point, if nothing else does
	text := put(nil, next, max(d.point, 1))
	if places > 0 {
		text = put(append(text, '.'), next, places)
	}
	return string(text)
}

// scientific is d with so many digits, its point behind the first one, and the exponent.
func (d decimal) scientific(count int) string {
	next := d.handOut(0)
	text := put(nil, next, 1)
	if count > 1 {
		text = put(append(text, '.'), next, count-1)
	}
	return string(strconv.AppendInt(append(text, 'e'), int64(d.point-1), 10))
}

// stream hands digits out, one after the other: noughts ahead, the digits, and noughts without end.
type stream struct {
	ahead  int
	digits string
}

func (s *stream) next() byte {
	switch {
	case s.ahead > 0:
		s.ahead--
		return '0'
	case s.digits == "":
		return '0'
	}
	digit := s.digits[0]
	s.digits = s.digits[1:]
	return digit
}

// handOut answers what hands out d's digits behind so many noughts, a digit each time it is called.
func (d decimal) handOut(ahead int) func() byte {
	s := &stream{ahead, d.digits}
	return s.next
}

// put sets the next so many digits behind text.
func put(text []byte, next func() byte, count int) []byte {
	for range count {
		text = append(text, next())
	}
	return text
}
