package span

import (
	"tontine/api"
	"tontine/float"
	"tontine/ratio"
)

// Hull is the span of all numbers of both (5.4).
func Hull(a, b api.Span) (api.Span, api.Errno) {
	if e := check(a, b); e != api.OK {
		return api.Span{}, e
	}
	return api.Span{Lo: min(a.Lo, b.Lo), Hi: max(a.Hi, b.Hi)}, api.OK
}

// Meet is the span of the numbers that are in both (5.4).
func Meet(a, b api.Span) (api.Span, api.Errno) {
	if e := check(a, b); e != api.OK {
		return api.Span{}, e
	}
	lo, hi := max(a.Lo, b.Lo), min(a.Hi, b.Hi)
	if lo > hi {
		return api.Span{}, api.ErrNone
	}
	return api.Span{Lo: lo, Hi: hi}, api.OK
}

// Has tells whether r is in a (5.4). The ends of a are floats: they lie beyond r, if they lie beyond the float next to r, or are that.
func Has(a api.Span, r api.Ratio) (bool, api.Errno) {
	if e := Check(a); e != api.OK {
		return false, e
	}
	low, e := float.Round(r, api.RoundFloor)
	if e != api.OK {
		return false, e
	}
	high, _ := float.Round(r, api.RoundCeil)
	return a.Lo <= low && high <= a.Hi, api.OK
}

// Within tells whether all of a is in b (5.4).
func Within(a, b api.Span) (bool, api.Errno) {
	if e := check(a, b); e != api.OK {
		return false, e
	}
	return b.Lo <= a.Lo && a.Hi <= b.Hi, api.OK
}

// Cmp is -1 or 1, if each number of a is below, or above, each one of b, else 0 (5.4).
func Cmp(a, b api.Span) (int, api.Errno) {
	switch e := check(a, b); {
	case e != api.OK:
		return 0, e
	case a.Hi < b.Lo:
		return -1, api.OK
	case a.Lo > b.Hi:
		return 1, api.OK
	}
	return 0, api.OK
}

// Width is Hi less Lo, exactly (5.5).
func Width(a api.Span) (api.Ratio, api.Errno) {
	lo, hi, e := exactEnds(a)
	if e != api.OK {
		return api.Ratio{}, e
	}
	return ratio.Sub(hi, lo)
}

// Middle is the float that is nearest to what lies half way between both ends (5.5).
func Middle(a api.Span) (float64, api.Errno) {
	lo, hi, e := exactEnds(a)
	if e != api.OK {
		return 0, e
	}
	both, _ := ratio.Add(lo, hi)
	half, _ := ratio.Div(both, api.Ratio{Num: "2", Den: "1"})
	return float.Round(half, api.RoundHalfEven)
}

// exactEnds are the numbers of both ends, or ErrWide, if one is infinite.
func exactEnds(a api.Span) (api.Ratio, api.Ratio, api.Errno) {
	if e := Check(a); e != api.OK {
		return api.Ratio{}, api.Ratio{}, e
	}
	lo, eLo := float.Exact(a.Lo)
	hi, eHi := float.Exact(a.Hi)
	if eLo != api.OK || eHi != api.OK {
		return api.Ratio{}, api.Ratio{}, api.ErrWide
	}
	return lo, hi, api.OK
}
