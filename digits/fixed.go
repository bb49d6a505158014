package digits

import (
	"tontine/api"
	"tontine/exact"
	"tontine/float"
)

// Exact is all decimal digits of x's number (3.3).
func Exact(x float64) (string, api.Errno) {
	p := float.Split(x)
	if !isFinite(p) {
		return "", api.ErrNotFinite
	}
	d := expansion(p)
	return d.withSign(p, d.plain(d.places())), api.OK
}

// Fixed is x's number, rounded to so many places by the way (3.4).
func Fixed(x float64, places, way int) (string, api.Errno) {
	p := float.Split(x)
	switch {
	case !isFinite(p):
		return "", api.ErrNotFinite
	case places < 0 || places > MaxPlaces || !exact.IsWay(way):
		return "", api.ErrRange
	}
	d := expansion(p)
	d = d.rounded(d.point+places, p.Neg, way)
	return d.withSign(p, d.plain(places)), api.OK
}

// Scientific is x's number, rounded to so many digits by the way (3.5).
func Scientific(x float64, count, way int) (string, api.Errno) {
	p := float.Split(x)
	switch {
	case !isFinite(p):
		return "", api.ErrNotFinite
	case count < 1 || count > MaxCount || !exact.IsWay(way):
		return "", api.ErrRange
	}
	d := expansion(p).rounded(count, p.Neg, way)
	return d.withSign(p, d.scientific(count)), api.OK
}

// withSign is the text of d, with - ahead, if the number that d is the size of is below nought. What came to nought is not.
func (d decimal) withSign(p api.Parts, text string) string {
	return exact.WithSign(p.Neg && d.digits != "", text)
}
