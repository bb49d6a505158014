package table

import (
	"math"

	"tontine/api"
	"tontine/ratio"
	"tontine/span"
)

// Lives is how many of so many live 0, 1, 2 .. years more, in floats (9.5).
func Lives(t api.Table, l api.Life, radix float64) ([]float64, api.Errno) {
	rates, e := coming(t, l)
	switch {
	case e != api.OK:
		return nil, e
	case math.IsNaN(radix) || math.IsInf(radix, 0):
		return nil, api.ErrNotFinite
	case radix < 0:
		return nil, api.ErrRange
	}
	alive := make([]float64, len(rates)+1)
	alive[0] = radix
	for n := range len(rates) {
		p := float64(api.Unit-rates[n]) / float64(api.Unit)
		alive[n+1] = alive[n] * p
	}
	return alive, api.OK
}

// Spans is the chances to live 0, 1, 2 .. years more, in spans (9.5).
func Spans(t api.Table, l api.Life) ([]api.Span, api.Errno) {
	rates, e := coming(t, l)
	if e != api.OK {
		return nil, e
	}
	alive := make([]api.Span, len(rates)+1)
	alive[0] = api.Span{Lo: 1, Hi: 1}
	for n := range len(rates) {
		p, _ := ratio.Of(api.Unit-rates[n], api.Unit)
		year, _ := span.Of(p, p)
		alive[n+1], _ = span.Mul(alive[n], year)
	}
	return alive, api.OK
}
