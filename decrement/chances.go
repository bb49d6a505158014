package decrement

import (
	"tontine/api"
	"tontine/exact"
	"tontine/whole"
)

// Dependent is the dependent rates at an age, cause by cause (15.2).
func Dependent(c api.Causes, age int) ([]api.Ratio, api.Errno) {
	if e := checkAge(c, age); e != api.OK {
		return nil, e
	}
	return leftUpTo(c, age, aYear())
}

// Within is the chances to have left by each cause up to a part of the year (15.2).
func Within(c api.Causes, age int, part api.Ratio) ([]api.Ratio, api.Errno) {
	if e := checkAge(c, age); e != api.OK {
		return nil, e
	}
	u, e := exact.Read(part)
	switch {
	case e != api.OK:
		return nil, e
	case u.Neg || u.Cmp(exact.OfInt(1)) > 0:
		return nil, api.ErrRange
	}
	return leftUpTo(c, age, u)
}

// leftUpTo is the chances to have left by each cause up to the part u of the year at an age.
func leftUpTo(c api.Causes, age int, u exact.Fraction) ([]api.Ratio, api.Errno) {
	y := yearOf(c, age)
	left := make([]whole.Nat, len(c.Rates))
	for cause := range len(left) {
		left[cause] = y.left(cause, u)
	}
	return exact.WriteParts(left, y.all(u).Mul(natural(common)))
}

// Stay is the chance to stay so many years (15.3).
func Stay(c api.Causes, age, years int) (api.Ratio, api.Errno) {
	if e := checkYears(c, age, years); e != api.OK {
		return api.Ratio{}, e
	}
	if age+years-1 > last(c) {
		return exact.OfInt(0).Ratio()
	}
	stay, all := natural(1), natural(1)
	for n := range years {
		y := yearOf(c, age+n)
		stay, all = stay.Mul(y.still(aYear())), all.Mul(y.all(aYear()))
	}
	return exact.WriteLowest(false, stay, all)
}

// Gone is, cause by cause, the chance to have left by it within so many years (15.3). All is summed in whole numbers; common divisors are looked for once.
func Gone(c api.Causes, age, years int) ([]api.Ratio, api.Errno) {
	if e := checkYears(c, age, years); e != api.OK {
		return nil, e
	}
	stay, all := natural(1), natural(1)
	gone := make([]whole.Nat, len(c.Rates))
	for _, o := range outcomes(c, age, years) {
		for cause := range len(gone) {
			gone[cause] = gone[cause].Mul(o.all).Add(stay.Mul(o.gone[cause]))
		}
		stay, all = stay.Mul(o.stay), all.Mul(o.all)
	}
	return exact.WriteParts(gone, all.Mul(natural(common)))
}
