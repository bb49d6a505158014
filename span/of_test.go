package span_test

import (
	"math"
	"math/big"
	"strings"
	"testing"

	"tontine/api"
	"tontine/span"
)

// power is 10 to the n, of either sign.
func power(n int64) *big.Rat {
	size := new(big.Int).Exp(big.NewInt(10), big.NewInt(max(n, -n)), nil)
	r := new(big.Rat).SetInt(size)
	if n < 0 {
		r.Inv(r)
	}
	return r
}

// between is part of the way from x to y.
func between(x, y float64, part *big.Rat) *big.Rat {
	r := new(big.Rat).Sub(rat(y), rat(x))
	return r.Add(rat(x), r.Mul(r, part))
}

// 5.2: Of, by the chapter's words: of what is a float, what lies between two, what lies beyond all.
func TestOf(t *testing.T) {
	third, tenth := big.NewRat(1, 3), power(-1)
	beyond := new(big.Rat).Add(rat(greatest), power(-1000))
	minusOf := func(r *big.Rat) *big.Rat { return new(big.Rat).Neg(r) }
	for _, c := range []struct {
		low, high *big.Rat
		wanted    api.Span
	}{
		{rat(0), rat(0), of(0, 0)}, {rat(1), rat(2), of(1, 2)}, {rat(-2), rat(-1), of(-2, -1)}, {tenth, tenth, of(math.Nextafter(0.1, 0), 0.1)}, {minusOf(tenth), minusOf(tenth), of(-0.1, math.Nextafter(-0.1, 0))},
		{minusOf(third), third, of(-0.33333333333333337, 0.33333333333333337)}, {third, rat(1), of(0.3333333333333333, 1)}, {rat(0), third, of(0, 0.33333333333333337)},
		{power(-400), power(-400), of(0, least)}, {minusOf(power(-400)), minusOf(power(-400)), of(-least, 0)}, {minusOf(power(-400)), power(-400), of(-least, least)}, {minusOf(power(-400)), rat(0), of(-least, 0)}, {rat(0), power(-400), of(0, least)},
		{power(400), power(400), of(greatest, inf)}, {minusOf(power(400)), minusOf(power(400)), of(-inf, -greatest)}, {minusOf(power(400)), power(400), line}, {rat(greatest), rat(greatest), point(greatest)}, {beyond, beyond, of(greatest, inf)}, {minusOf(beyond), beyond, line}, {rat(-greatest), rat(greatest), of(-greatest, greatest)},
		{rat(least), rat(least), point(least)}, {between(0, least, third), rat(1), of(0, 1)}, {between(least, 2*least, third), rat(1), of(least, 1)}, {between(1, math.Nextafter(1, 2), power(-300)), rat(2), of(1, 2)}, {rat(-1), between(1, math.Nextafter(1, 2), power(-300)), of(-1, math.Nextafter(1, 2))},
	} {
		want(t, "Of "+c.low.String()+" and "+c.high.String(), tell(span.Of(ratio(c.low), ratio(c.high))), toldSpan(c.wanted))
		if c.low.Cmp(c.high) < 0 {
			want(t, "Of, turned about", tell(span.Of(ratio(c.high), ratio(c.low))), api.ErrRange.Error())
		}
	}
	nines := strings.Repeat("9", api.MaxDigits)
	most, next := api.Ratio{Num: nines, Den: "2"}, api.Ratio{Num: nines[1:] + "7", Den: "2"}
	want(t, "Of long ones", tell(span.Of(next, most)), toldSpan(of(greatest, inf)))
	want(t, "Of long ones, turned about", tell(span.Of(most, next)), api.ErrRange.Error())
	tiny, less := api.Ratio{Num: "1", Den: nines[1:] + "8"}, api.Ratio{Num: "1", Den: nines}
	want(t, "Of tiny ones", tell(span.Of(less, tiny)), toldSpan(of(0, least)))
	want(t, "Of tiny ones, turned about", tell(span.Of(tiny, less)), api.ErrRange.Error())
}

// 5.2: Of is the narrowest span: told by the floats about.
func TestOfIsNarrowest(t *testing.T) {
	r := random(2)
	for range 3000 {
		x, y := anyFloat(r), anyFloat(r)
		low, high := rat(min(x, y)), rat(max(x, y))
		if r.Intn(2) == 0 {
			low = between(min(x, y), math.Nextafter(min(x, y), 0), big.NewRat(r.Int63n(1000), 1000))
		}
		if low.Cmp(high) > 0 {
			low, high = high, low
		}
		want(t, "Of "+low.String()+" and "+high.String(), tell(span.Of(ratio(low), ratio(high))), toldSpan(bounds{number{r: low}, number{r: high}}.span()))
	}
}
