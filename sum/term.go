package sum

import (
	"math/bits"

	"tontine/api"
	"tontine/float"
)

// term is what is added: its kind and its sign, as api.Parts has them, and of a number its size (high 2^64 + low) 2^exp.
type term struct {
	kind      int
	neg       bool
	high, low uint64
	exp       int
}

func ofFloat(x float64) term {
	p := float.Split(x)
	return term{kind: p.Kind, neg: p.Neg, low: p.Mant, exp: p.Exp}
}

// ofProduct is the product of two floats, of which nothing is rounded.
func ofProduct(x, y float64) term {
	p, q := float.Split(x), float.Split(y)
	either := func(kind int) bool { return p.Kind == kind || q.Kind == kind }
	neg := p.Neg != q.Neg
	switch {
	case either(api.FloatNone) || either(api.FloatNought) && either(api.FloatInfinite):
		return term{kind: api.FloatNone}
	case either(api.FloatInfinite):
		return term{kind: api.FloatInfinite, neg: neg}
	case either(api.FloatNought):
		return term{kind: api.FloatNought, neg: neg}
	}
	high, low := bits.Mul64(p.Mant, q.Mant)
	return term{kind: api.FloatNormal, neg: neg, high: high, low: low, exp: p.Exp + q.Exp}
}

// marks is what a sum of this term alone has.
func (t term) marks() marks {
	switch t.kind {
	case api.FloatNone:
		return marks{isNone: true, notMinus: true, notPlus: true}
	case api.FloatInfinite:
		return marks{isAbove: !t.neg, isBelow: t.neg, notMinus: true, notPlus: true}
	case api.FloatNought:
		return marks{notMinus: !t.neg, notPlus: t.neg}
	}
	return marks{notMinus: true, notPlus: true}
}
