package sum_test

import (
	"fmt"
	"slices"
	"strings"
	"testing"

	"tontine/api"
	"tontine/sum"
)

// listCalls are all calls that are given lists.
func listCalls() map[string]func(l []float64, n int) string {
	return map[string]func(l []float64, n int) string{
		"Exact":   func(l []float64, n int) string { return tell(sum.Exact(l, n)) },
		"Dot":     func(l []float64, n int) string { return tell(sum.Dot(l, l, n)) },
		"Ordered": func(l []float64, n int) string { return tell(sum.Ordered(l)) },
		"Halves":  func(l []float64, n int) string { return tell(sum.Halves(l)) },
		"Kept":    func(l []float64, n int) string { return tellTwo(sum.Kept(l)) },
		"Bound":   func(l []float64, n int) string { return tellRatio(sum.Bound(l, n)) },
	}
}

// R4: what is handed in stays as it is, spare room too; R7: the same call tells the same, whatever the capacity.
func TestListsStay(t *testing.T) {
	r := random(20)
	for i := range 30 {
		room := listOf(anyParts(r, 20, i%3))
		was := fmt.Sprint(room)
		for name, call := range listCalls() {
			for _, n := range []int{api.RoundFloor, 0} {
				first := call(room[:12], n)
				want(t, name+" changed its list", fmt.Sprint(room), was)
				want(t, name+" of another list", call(slices.Clone(room[:12:12]), n), first)
			}
		}
	}
}

// R3: none may be nil or empty.
func TestNoneIsNone(t *testing.T) {
	for name, call := range listCalls() {
		for n := range 8 {
			want(t, name, call([]float64{}, n), call(nil, n))
		}
	}
}

// R7: asking changes nothing; R4: what was told stays when the sum goes on.
func TestAskingChangesNothing(t *testing.T) {
	r := random(21)
	for i := range 50 {
		parts := anyParts(r, r.Intn(12), i%3)
		a := put(t, sum.New(), parts...)
		check(t, "once", a, know(parts))
		check(t, "twice", a, know(parts))
		value, e := a.Value()
		text := a.Text()
		before := tellRatio(value, e) + text
		put(t, a, anyParts(r, 5, 10)...)
		want(t, "what was told", tellRatio(value, e)+text, before)
	}
	one, other := sum.New(), sum.New()
	put(t, one, ofFloats(1)...)
	check(t, "another new one", other, know(nil))
}

// P1: no call panics, and each ends, whatever it is given; R5: what is beside an error is nothing.
func TestNoCallPanics(t *testing.T) {
	numbers := []int{0, 1, -1, 2, 3, 4, 5, 6, 7, 1 << 52, 1<<52 + 1, 1<<63 - 1, -1 << 63}
	lists := [][]float64{nil, {}, edges(), make([]float64, api.MaxItems), make([]float64, api.MaxItems+1)}
	for name, call := range listCalls() {
		for _, l := range lists {
			for _, n := range numbers {
				first := call(l, n)
				want(t, name+" twice", call(l, n), first)
				if strings.Contains(first, "beside") {
					t.Errorf("%s: %s", name, first)
				}
			}
		}
	}
	pieces := []string{"", " ", "0", "1", "-", "---ab", "-----", "npmab", "2", "-3", "x", "\x00", "\xff", two(2148).String(), two(2149).String(), strings.Repeat("9", 5000), "1099511627776"}
	r := random(22)
	for range 20000 {
		text := ""
		for i := range 1 + r.Intn(7) {
			if i > 0 && r.Intn(8) > 0 {
				text += " "
			}
			text += pieces[r.Intn(len(pieces))]
		}
		a, f := sum.Read(text)
		if (a == nil) != (f.Code != api.OK) || a != nil && (f != api.Fault{} || a.Text() != text) {
			t.Errorf("Read of %s: %s", short(text), tellRead(a, f))
		}
	}
}
