package span_test

import (
	"fmt"
	"math"
	"slices"
	"testing"

	"tontine/api"
	"tontine/span"
)

func nought() bounds { return boundsOf(of(0, 0)) }

func sumOf(l []api.Span) api.Span {
	s := nought()
	for _, a := range l {
		s = s.plus(boundsOf(a))
	}
	return s.span()
}

func dotOf(x, y []api.Span) api.Span {
	s := nought()
	for i := range x {
		s = s.plus(boundsOf(x[i]).times(boundsOf(y[i])))
	}
	return s.span()
}

// hornerOf is rounded outwards behind each product and each sum.
func hornerOf(l []api.Span, x api.Span) api.Span {
	s := of(0, 0)
	for i, a := range slices.Backward(l) {
		if i == len(l)-1 {
			s = a
			continue
		}
		s = boundsOf(boundsOf(s).times(boundsOf(x)).span()).plus(boundsOf(a)).span()
	}
	return s
}

// 5.6, 5.7: lists of none, of one, of several, of edges.
func TestLists(t *testing.T) {
	r := random(8)
	lists := [][]api.Span{nil, {}, edgeSpans()}
	for i := range 400 {
		l := anySpans(r, r.Intn(12))
		for range i % 4 { // some that cancel
			a := finiteSpan(r)
			l = append(l, a, of(-a.Hi+0, -a.Lo+0))
		}
		lists = append(lists, l)
	}
	for range 300 {
		var l []api.Span
		for range r.Intn(8) {
			l = append(l, finiteSpan(r))
		}
		lists = append(lists, l)
	}
	for _, a := range edgeSpans() {
		lists = append(lists, []api.Span{a})
	}
	for _, l := range lists {
		want(t, fmt.Sprint("Sum of ", l), tell(span.Sum(l)), toldSpan(sumOf(l)))
		other := slices.Clone(l)
		r.Shuffle(len(other), func(i, j int) { other[i], other[j] = other[j], other[i] })
		want(t, fmt.Sprint("Dot of ", l, " and ", other), tell(span.Dot(l, other)), toldSpan(dotOf(l, other)))
		if len(l) < 30 {
			x := anySpan(r)
			want(t, fmt.Sprint("Horner of ", l, " and ", x), tell(span.Horner(l, x)), toldSpan(hornerOf(l, x)))
		}
	}
}

// 5.6: products of which one is the outermost by the last of its binary digits, or by none that floats have.
func TestDotLooksExactly(t *testing.T) {
	up, down := math.Nextafter(1, 2), math.Nextafter(1, 0)
	next := math.Nextafter(up, 2) // the square of up lies above it by 2^-104
	for _, c := range [][2]api.Span{
		{of(-next, up), of(-1, up)}, {of(-up, next), of(-up, 1)}, {of(-next, up), of(-up, 1)}, {of(-up, next), of(-1, up)}, {of(-up, 1), of(-1, up)}, {of(-1, up), of(-up, 1)}, {of(-up, down), of(-down, up)}, {of(-down, up), of(-up, down)}, {of(-3*least, least), of(-least, 2*least)}, {of(-2*least, 3*least), of(-3*least, 2*least)},
		{of(-least, up*0x1p-1000), of(-1, least)}, {of(-greatest, math.Nextafter(greatest, 0)), of(-math.Nextafter(greatest, 0), greatest)}, {of(-1, 1), line}, {of(0, 0), line}, {of(0, 1), of(-inf, 0)}, {of(-0x1p-537, 0x1p-537), of(-0x1p537, 0x1p537)},
	} {
		for _, more := range []float64{0, -1, 1, next, -next, least, -least, greatest, -greatest} {
			x, y := []api.Span{c[0], point(more)}, []api.Span{c[1], point(1)}
			want(t, fmt.Sprint("Dot of ", x, " and ", y), tell(span.Dot(x, y)), toldSpan(dotOf(x, y)))
			want(t, fmt.Sprint("Dot of ", y, " and ", x), tell(span.Dot(y, x)), toldSpan(dotOf(x, y)))
		}
	}
}

// 5.6, 5.7, told in so many words; what is rounded once, where adding one behind the other would be wider.
func TestListsInWords(t *testing.T) {
	up := math.Nextafter(1, 2)
	for _, c := range []struct {
		l   []api.Span
		sum api.Span
	}{
		{nil, of(0, 0)}, {[]api.Span{}, of(0, 0)}, {points(0.1), point(0.1)}, {[]api.Span{line}, line}, {[]api.Span{of(-2, 3)}, of(-2, 3)}, {points(1, -1), of(0, 0)}, {points(1, least, -1), point(least)}, {points(1, 0x1p-60, -1), point(0x1p-60)}, {points(greatest, greatest, -greatest), point(greatest)}, {points(greatest, greatest), of(greatest, inf)}, {points(-greatest, -least), of(-inf, -greatest)},
		{points(1, least), of(1, up)}, {points(1, 0x1p-53, 0x1p-53), point(up)}, {[]api.Span{of(1, inf), of(-inf, 2)}, line}, {[]api.Span{of(1, inf), of(1, 2)}, of(2, inf)}, {[]api.Span{of(-inf, 2), of(1, 2)}, of(-inf, 4)}, {[]api.Span{of(1, inf), of(1, inf), point(-1)}, of(1, inf)}, {[]api.Span{of(-1, 0), of(1, 1)}, of(0, 1)},
	} {
		want(t, fmt.Sprint("Sum of ", c.l), tell(span.Sum(c.l)), toldSpan(c.sum))
	}
	for _, c := range []struct {
		x, y []api.Span
		dot  api.Span
	}{
		{nil, nil, of(0, 0)}, {nil, []api.Span{}, of(0, 0)}, {[]api.Span{of(-1, 2)}, []api.Span{of(3, 4)}, of(-4, 8)}, {points(0x1p600, 0x1p600), points(0x1p600, -0x1p600), of(0, 0)}, {points(0x1p600, 0x1p600, 3), points(0x1p600, -0x1p600, 5), point(15)}, {points(0x1p-600), points(0x1p-600), of(0, least)}, {points(0x1p-600, 1), points(-0x1p-600, 1), of(math.Nextafter(1, 0), 1)}, {points(0x1p-600), points(-0x1p-600), of(-least, 0)},
		{[]api.Span{of(0, 0), point(1)}, []api.Span{line, point(2)}, point(2)}, {[]api.Span{of(0, 1), point(1)}, []api.Span{of(1, inf), point(2)}, of(2, inf)}, {[]api.Span{of(1, 2), of(1, 2)}, []api.Span{of(1, inf), of(-inf, 1)}, line}, {[]api.Span{of(-2, 3)}, []api.Span{of(-5, 4)}, of(-15, 12)}, {points(up), points(up), of(1+0x1p-51, 1+0x1p-51+0x1p-52)}, {points(up, -1, -0x1p-51), points(up, 1, 1), point(0x1p-104)},
	} {
		want(t, fmt.Sprint("Dot of ", c.x, " and ", c.y), tell(span.Dot(c.x, c.y)), toldSpan(c.dot))
	}
	for _, c := range []struct {
		l      []api.Span
		x      api.Span
		wanted api.Span
	}{
		{nil, of(2, 3), of(0, 0)}, {nil, line, of(0, 0)}, {points(5), line, point(5)}, {points(5), of(0, 0), point(5)}, {points(1, 2), of(-1, 3), of(-1, 7)}, {points(1, 2, 3), point(10), point(321)}, {[]api.Span{of(1, 2), of(3, 4), of(5, 6)}, point(10), of(531, 642)}, {points(1, 0, 1), of(-1, 1), of(0, 2)}, {points(0, 1), line, line}, {points(7, 0, 0), line, point(7)},
		{points(-1, 1, 1), point(0x1p-60), of(-1, -math.Nextafter(1, 0))},
	} {
		want(t, fmt.Sprint("Horner of ", c.l, " and ", c.x), tell(span.Horner(c.l, c.x)), toldSpan(c.wanted))
	}
	list := points(1, 0x1p-60, -1)
	behind := must(t)(span.Add(must(t)(span.Add(list[0], list[1])), list[2]))
	if once := must(t)(span.Sum(list)); !(behind.Lo < once.Lo && once.Hi < behind.Hi) {
		t.Errorf("Sum: %s, one behind the other: %s", toldSpan(once), toldSpan(behind))
	}
}

// 5.1, 5.6, 5.7: lists that are too long and of unlike lengths, spans that are not right, and which of two comes first.
func TestListsRefused(t *testing.T) {
	most, long := make([]api.Span, api.MaxItems), make([]api.Span, api.MaxItems+1)
	wrong := of(1, 0)
	longWrong := append([]api.Span{wrong}, long...)
	bad := []api.Span{{}, {}, wrong}
	mostBad := append(slices.Clone(most[1:]), wrong)
	tooLong, shape, pairs := api.ErrLong.Error(), api.ErrShape.Error(), api.ErrPairs.Error()
	for _, c := range []struct {
		l   []api.Span
		sum string
	}{{long, tooLong}, {longWrong, tooLong}, {bad, shape}, {mostBad, shape}, {most, toldSpan(of(0, 0))}, {[]api.Span{wrong}, shape}} {
		want(t, "Sum", tell(span.Sum(c.l)), c.sum)
		want(t, "Horner", tell(span.Horner(c.l, of(1, 2))), c.sum)
		first := c.sum
		if first == toldSpan(of(0, 0)) {
			first = shape
		}
		want(t, "Horner with x not right", tell(span.Horner(c.l, wrong)), first)
	}
	want(t, "Horner of none, x not right", tell(span.Horner(nil, wrong)), shape)
	for _, c := range []struct {
		x, y []api.Span
		dot  string
	}{
		{long, long, tooLong}, {long, nil, tooLong}, {nil, long, tooLong}, {long, most, tooLong}, {most, long, tooLong}, {longWrong, long, tooLong}, {long, bad, tooLong}, {bad, long, shape}, {bad, bad, shape}, {bad, nil, shape}, {nil, bad, shape}, {most, bad, shape}, {bad, most, shape}, {most, mostBad, shape}, {mostBad, most, shape}, {most, longWrong, tooLong},
		{nil, most[:1], pairs}, {most[:1], nil, pairs}, {most, most[1:], pairs}, {most[1:], most, pairs}, {[]api.Span{line}, []api.Span{}, pairs}, {most, most, toldSpan(of(0, 0))},
	} {
		want(t, fmt.Sprint("Dot of ", len(c.x), " and ", len(c.y)), tell(span.Dot(c.x, c.y)), c.dot)
	}
}

// 5.6, 5.7: the longest lists.
func TestLongestLists(t *testing.T) {
	r := random(9)
	var x, y []api.Span
	for range api.MaxItems {
		x, y = append(x, finiteSpan(r)), append(y, finiteSpan(r))
	}
	want(t, "Sum", tell(span.Sum(x)), toldSpan(sumOf(x)))
	want(t, "Dot", tell(span.Dot(x, y)), toldSpan(dotOf(x, y)))
	want(t, "Horner", tell(span.Horner(x, of(-0.5, 0.25))), toldSpan(hornerOf(x, of(-0.5, 0.25))))
	ends := slices.Repeat(points(greatest), api.MaxItems)
	want(t, "Sum of the greatest", tell(span.Sum(ends)), toldSpan(of(greatest, inf)))
	want(t, "Dot of the greatest", tell(span.Dot(ends, ends)), toldSpan(of(greatest, inf)))
	ends = slices.Repeat(points(-least), api.MaxItems)
	want(t, "Sum of the least", tell(span.Sum(ends)), toldSpan(point(-least*api.MaxItems)))
	want(t, "Dot of the least", tell(span.Dot(ends, ends)), toldSpan(of(0, least)))
}
