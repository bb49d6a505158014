package sum

import (
	"slices"
	"strconv"
	"strings"

	"tontine/api"
	"tontine/exact"
	"tontine/tally"
	"tontine/whole"
)

// The fields of a text, which also tell where it is wrong, and the other ways to be wrong.
const (
	atCount = iota
	atMarks
	atNum
	atDen
	atFields // there are not just these four
	atAll    // only all of them together are no sum's
)

// Text is the text of the sum (4.3).
func (a *Acc) Text() string {
	r, _ := a.number.Ratio() // with MaxTerms terms it is never too long
	return strings.Join([]string{atCount: strconv.Itoa(a.count), atMarks: a.marks.text(), atNum: r.Num, atDen: r.Den}, " ")
}

// Read is the sum whose text is s (4.3).
func Read(s string) (*Acc, api.Fault) {
	if len(s) > api.MaxText {
		return nil, api.Fault{Code: api.ErrLong}
	}
	a, at := read(s)
	if a == nil {
		return nil, api.Fault{At: at, Code: api.ErrForm}
	}
	return a, api.Fault{}
}

// read is the sum whose text is s; or nil, and where s is wrong.
func read(s string) (*Acc, int) {
	fields := strings.SplitN(s, " ", atFields+1)
	if len(fields) != atFields || slices.Contains(fields, "") {
		return nil, atFields
	}
	count, ok := readCount(fields[atCount])
	if !ok {
		return nil, atCount
	}
	m, ok := readMarks(fields[atMarks])
	if !ok {
		return nil, atMarks
	}
	num := fields[atNum]
	if !exact.IsWhole(num) {
		return nil, atNum
	}
	twos, ok := readTwos(fields[atDen])
	if !ok || twos > 0 && !isOdd(num) {
		return nil, atDen
	}
	n, ok := readNumber(num, twos, count)
	a := &Acc{count, m, n}
	if !ok || !a.isMarkedRight() {
		return nil, atAll
	}
	return a, 0
}

// readCount is how many terms s tells, or false, if that is no number of terms.
func readCount(s string) (int, bool) {
	n, err := strconv.Atoi(s)
	return n, exact.IsNatural(s) && err == nil && n <= api.MaxTerms
}

// readTwos is which power of two s is, or false, if it is none that a sum's number has below.
func readTwos(s string) (int, bool) {
	if !exact.IsNatural(s) || s == "0" || len(s) > api.MaxDigits { // none of those has so many digits
		return 0, false
	}
	den := whole.Parse(s)
	twos := den.BitLen() - 1
	return twos, twos == den.TrailingZeros() && twos <= tally.Places
}

// isOdd tells whether a whole number in digits is odd: whether it is in lowest terms with powers of two.
func isOdd(digits string) bool {
	return digits[len(digits)-1]%2 == 1 // the byte of 0 is even
}

// readNumber is num by so many twos, or false, if that is more than so many terms can come to.
func readNumber(num string, twos, count int) (tally.Number, bool) {
	neg, digits := exact.CutSign(num)
	if len(digits) > api.MaxDigits { // far more than MaxTerms terms can come to
		return tally.Number{}, false
	}
	return tally.OfSize(neg, whole.Parse(digits).ShiftLeft(tally.Places-twos), count)
}

// isMarkedRight tells whether the marks go with how many terms there are, and with the number: noughts alone have just one of the last two marks, or both; anything else has both.
func (a *Acc) isMarkedRight() bool {
	switch {
	case a.count == 0:
		return a.marks == marks{}
	case a.marks.areFinite() && a.number == tally.Number{}:
		return a.marks != marks{}
	}
	return a.marks[notMinus] && a.marks[notPlus]
}
