package tally

import (
	"cmp"
	"math/bits"

	"tontine/api"
	"tontine/float"
)

// Term is a float, or the product of two, of which nothing is rounded: its kind and its sign, as api.Parts has them, and of a number its size (high 2^64 + low) 2^exp.
type Term struct {
	Kind      int
	Neg       bool
	high, low uint64
	exp       int
}

// OfFloat is the float x.
func OfFloat(x float64) Term {
	p := float.Split(x)
	return Term{Kind: p.Kind, Neg: p.Neg, low: p.Mant, exp: p.Exp}
}

// OfProduct is the product of two floats.
func OfProduct(x, y float64) Term {
	p, q := float.Split(x), float.Split(y)
	either := func(kind int) bool { return p.Kind == kind || q.Kind == kind }
	neg := p.Neg != q.Neg
	switch {
	case either(api.FloatNone) || either(api.FloatNought) && either(api.FloatInfinite):
		return Term{Kind: api.FloatNone}
	case either(api.FloatInfinite):
		return Term{Kind: api.FloatInfinite, Neg: neg}
	case either(api.FloatNought):
		return Term{Kind: api.FloatNought, Neg: neg}
	}
	high, low := bits.Mul64(p.Mant, q.Mant)
	return Term{Kind: api.FloatNormal, Neg: neg, high: high, low: low, exp: p.Exp + q.Exp}
}

// Cmp is -1, 0 or 1: t is below u, is the same number, is above u. Infinite ones lie beyond all numbers; neither is none.
func (t Term) Cmp(u Term) int {
	if t.sign() != u.sign() {
		return cmp.Compare(t.sign(), u.sign())
	}
	t, u = t.raised(), u.raised()
	return t.sign() * cmp.Or(cmp.Compare(t.exp, u.exp), cmp.Compare(t.high, u.high), cmp.Compare(t.low, u.low))
}

func (t Term) sign() int {
	switch {
	case t.Kind == api.FloatNought:
		return 0
	case t.Neg:
		return -1
	}
	return 1
}

// raised is the same term with the topmost bit of high set, so that of two sizes the greater one has the greater exp, if these are not the same; an infinite one's is greater than all.
func (t Term) raised() Term {
	if t.Kind == api.FloatInfinite {
		return Term{Kind: t.Kind, Neg: t.Neg, exp: termBits}
	}
	if t.high == 0 {
		t.high, t.low, t.exp = t.low, 0, t.exp-wordBits
	}
	up := bits.LeadingZeros64(t.high)
	t.high, t.low, t.exp = t.high<<up|t.low>>(wordBits-up), t.low<<up, t.exp-up
	return t
}
