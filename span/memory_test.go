package span_test

import (
	"fmt"
	"math"
	"slices"
	"strings"
	"testing"

	"tontine/api"
	"tontine/span"
)

func listCalls() map[string]func(l []api.Span) string {
	return map[string]func(l []api.Span) string{
		"Sum":    func(l []api.Span) string { return tell(span.Sum(l)) },
		"Dot":    func(l []api.Span) string { return tell(span.Dot(l, l)) },
		"Horner": func(l []api.Span) string { return tell(span.Horner(l, of(-0.5, 2))) },
	}
}

// R4: what is handed in stays as it is, spare room too; R7: the same call tells the same, whatever the capacity.
func TestListsStay(t *testing.T) {
	r := random(20)
	for range 50 {
		room := anySpans(r, 20)
		was := fmt.Sprint(room)
		for name, call := range listCalls() {
			first := call(room[:12])
			want(t, name+" changed its list", fmt.Sprint(room), was)
			want(t, name+" of another list", call(slices.Clone(room[:12:12])), first)
			want(t, name+" of none", call([]api.Span{}), call(nil)) // R3
		}
	}
}

// P1: no call panics, and each ends, whatever it is given; R5: what is beside an error is nothing.
func TestNoCallPanics(t *testing.T) {
	floats := []float64{none, -inf, -greatest, -1, -least, minus, 0, least, 1, greatest, inf}
	check := func(what, told string) {
		t.Helper()
		if strings.Contains(told, "beside") || told == "" {
			t.Errorf("%s: %s", what, told)
		}
	}
	var spans []api.Span
	for _, x := range floats {
		check("Point", tell(span.Point(x)))
		for _, y := range floats {
			spans = append(spans, of(x, y))
		}
	}
	for _, a := range spans {
		for name, call := range oneCalls() {
			check(name, call(a))
		}
		for name, call := range listCalls() {
			check(name, call([]api.Span{{}, a}))
		}
		for _, n := range append(noPowers, powers...) {
			check("Pow", tell(span.Pow(a, n)))
		}
		for _, b := range spans {
			for name, call := range twoCalls() {
				check(name, call(a, b))
			}
		}
	}
	for name, call := range listCalls() {
		for _, n := range []int{0, 1, api.MaxItems, api.MaxItems + 1, 1 << 16} {
			check(name, call(make([]api.Span, n)))
			check(name, call(slices.Repeat([]api.Span{line}, n)))
		}
	}
}

// P1: any text is read or refused; what is read is written as it was.
func TestAnyTexts(t *testing.T) {
	pieces := []string{"", "[", "]", ", ", ",", " ", "0", "1", "-", "2", "inf", "-inf", "nan", "0.1", "1e21", "e", ".", "5e-324", "x", "\x00", "\xff"}
	r := random(21)
	for range 50000 {
		text := ""
		if r.Intn(2) == 0 {
			text = "["
		}
		for range r.Intn(4) {
			text += pieces[r.Intn(len(pieces))]
		}
		if r.Intn(2) == 0 {
			text += ", " + pieces[r.Intn(len(pieces))] + "]"
		}
		a, e := span.Parse(text)
		if e != api.OK {
			want(t, fmt.Sprintf("Parse of %q", text), tell(a, e), api.ErrForm.Error())
			continue
		}
		want(t, "Text", tellText(span.Text(a)), text)
		if math.IsNaN(a.Lo) || math.IsNaN(a.Hi) {
			t.Errorf("Parse of %q: %s", text, toldSpan(a))
		}
	}
}
