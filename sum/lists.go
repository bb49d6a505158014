package sum

import (
	"math"

	"tontine/api"
	"tontine/exact"
	"tontine/tally"
	"tontine/whole"
)

// Exact is what the sum of all of l comes to by the way (4.4).
func Exact(l []float64, way int) (float64, api.Errno) {
	if len(l) > api.MaxItems {
		return 0, api.ErrLong
	}
	a := New()
	for _, x := range l {
		a.Add(x) // MaxItems are fewer than MaxTerms
	}
	return a.Round(way)
}

// Dot is what the sum of the products of x's and y's numbers comes to by the way (4.4).
func Dot(x, y []float64, way int) (float64, api.Errno) {
	switch {
	case len(x) > api.MaxItems || len(y) > api.MaxItems:
		return 0, api.ErrLong
	case len(x) != len(y):
		return 0, api.ErrPairs
	}
	a := New()
	for i := range x {
		a.AddProduct(x[i], y[i])
	}
	return a.Round(way)
}

// Ordered is the sum in the list's order, each step rounded (4.5).
func Ordered(l []float64) (float64, api.Errno) {
	if len(l) > api.MaxItems {
		return 0, api.ErrLong
	}
	s := 0.0
	for _, x := range l {
		s += x
	}
	return s, api.OK
}

// Halves is the sum by halves, each step rounded (4.5).
func Halves(l []float64) (float64, api.Errno) {
	if len(l) > api.MaxItems {
		return 0, api.ErrLong
	}
	return halves(l), api.OK
}

func halves(l []float64) float64 {
	switch len(l) {
	case 0:
		return 0
	case 1:
		return l[0]
	}
	half := len(l) / 2
	return halves(l[:half]) + halves(l[half:])
}

// Kept is the sum in the list's order with what the steps lost, and what they lost (4.5).
func Kept(l []float64) (float64, float64, api.Errno) {
	if len(l) > api.MaxItems {
		return 0, 0, api.ErrLong
	}
	s, c := 0.0, 0.0
	for _, x := range l {
		t := s + x
		if math.Abs(s) >= math.Abs(x) {
			c += (s - t) + x
		} else {
			c += (x - t) + s
		}
		s = t
	}
	return s + c, c, api.OK
}

// Bound is how far a sum of l may be from the exact one, if each number goes through so many rounded steps (4.6).
func Bound(l []float64, steps int) (api.Ratio, api.Errno) {
	if len(l) > api.MaxItems {
		return api.Ratio{}, api.ErrLong
	}
	a := New()
	for _, x := range l {
		a.Add(math.Abs(x))
	}
	switch {
	case !a.marks.areFinite():
		return api.Ratio{}, api.ErrNotFinite
	case steps < 0 || steps > 1<<52:
		return api.Ratio{}, api.ErrRange
	}
	_, sizes := a.number.Split()
	n := uint64(steps)
	// With u = 2^-53, n u by 1 - n u is n by 2^53 - n.
	return exact.WriteLowest(false, sizes.Mul(whole.Of(n)), whole.Of(1<<53-n).ShiftLeft(tally.Places))
}
