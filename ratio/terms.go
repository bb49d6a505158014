package ratio

import (
	"tontine/api"
	"tontine/exact"
	"tontine/whole"
)

// Terms is the continued fraction of a (1.6).
func Terms(a api.Ratio) ([]string, api.Errno) {
	f, e := exact.Read(a)
	if e != api.OK {
		return nil, e
	}
	first, rest := f.Floor()
	terms := []string{exact.WithSign(first.Neg, first.Num.Text())}
	x, y := rest.Den, rest.Num
	for !y.IsZero() {
		if len(terms) == api.MaxItems {
			return nil, api.ErrLong
		}
		term, left := x.DivMod(y)
		terms = append(terms, term.Text())
		x, y = y, left
	}
	return terms, api.OK
}

// FromTerms is the fraction whose continued fraction l is (1.6).
func FromTerms(l []string) (api.Ratio, api.Errno) {
	if len(l) > api.MaxItems {
		return api.Ratio{}, api.ErrLong
	}
	if !areTerms(l) {
		return api.Ratio{}, api.ErrForm
	}
	neg, digits := exact.CutSign(l[0])
	rest, ok := belowOne(l[1:])
	// Of a first term with one digit too many the rest may still make a right number: -10 to the MaxDigits, and 1.
	if !ok || len(digits) > api.MaxDigits+1 {
		return api.Ratio{}, api.ErrLong
	}
	return exact.OfWhole(neg, whole.Parse(digits)).Plus(rest).Ratio()
}

func areTerms(l []string) bool {
	for i, s := range l {
		if i == 0 && !exact.IsWhole(s) || i > 0 && (!exact.IsNatural(s) || s == "0") {
			return false
		}
	}
	return len(l) > 0
}

// belowOne is what the terms behind the first one come to: above nought, and 1 at most; nought of none. It gives up as soon as the denominator is too long, since that never falls again, and is not below any term.
func belowOne(terms []string) (exact.Fraction, bool) {
	c := exact.NewConvergent().Next(whole.Nat{})
	for _, s := range terms {
		if len(s) > api.MaxDigits {
			return exact.Fraction{}, false
		}
		c = c.Next(whole.Parse(s))
		if c.Den.BitLen() > exact.MostBits {
			return exact.Fraction{}, false
		}
	}
	return c.Fraction(), true
}
