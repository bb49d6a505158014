package sum

import (
	"tontine/api"
	"tontine/tally"
)

// The marks, in the order of their letters: whether there is a term
const (
	isNone   = iota // that is none
	isAbove         // that is infinite, above nought
	isBelow         // that is infinite, below nought
	notMinus        // that is another one than -0
	notPlus         // that is another one than +0
	markCount
)

const letters = "npmab"

// noMark stands in place of a letter whose mark is not there.
const noMark = '-'

type marks [markCount]bool

// marksOf is what a sum of this term alone has.
func marksOf(t tally.Term) marks {
	switch t.Kind {
	case api.FloatNone:
		return marks{isNone: true, notMinus: true, notPlus: true}
	case api.FloatInfinite:
		return marks{isAbove: !t.Neg, isBelow: t.Neg, notMinus: true, notPlus: true}
	case api.FloatNought:
		return marks{notMinus: !t.Neg, notPlus: t.Neg}
	}
	return marks{notMinus: true, notPlus: true}
}

// with is the marks of both.
func (m marks) with(o marks) marks {
	for i := range m {
		m[i] = m[i] || o[i]
	}
	return m
}

// areFinite tells whether all terms are numbers.
func (m marks) areFinite() bool {
	return m == marks{notMinus: m[notMinus], notPlus: m[notPlus]}
}

// text is the letters of the marks.
func (m marks) text() string {
	text := []byte(letters)
	for i := range m {
		if !m[i] {
			text[i] = noMark
		}
	}
	return string(text)
}

// readMarks is the marks whose letters s is, or false, if there are none.
func readMarks(s string) (marks, bool) {
	var m marks
	if len(s) != len(letters) {
		return m, false
	}
	for i := range m {
		m[i] = s[i] == letters[i]
	}
	return m, m.text() == s
}
