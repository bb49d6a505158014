package decrement

import (
	"math"

	"tontine/api"
)

// Floats is how many of so many are there in 0, 1, 2 .. years, in floats (15.7).
func Floats(c api.Causes, age int, radix float64) ([]float64, api.Errno) {
	if e := checkAge(c, age); e != api.OK {
		return nil, e
	}
	switch {
	case math.IsNaN(radix) || math.IsInf(radix, 0):
		return nil, api.ErrNotFinite
	case radix < 0:
		return nil, api.ErrRange
	}
	there := make([]float64, last(c)-age+2)
	there[0] = radix
	for n := range len(there) - 1 {
		p := 1.0
		for _, rates := range c.Rates {
			p *= float64(api.Unit-rates[age-c.First+n]) / float64(api.Unit)
		}
		there[n+1] = there[n] * p
	}
	return there, api.OK
}
