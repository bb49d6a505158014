package smooth_test

import (
	"fmt"
	"math"
	"strings"
	"testing"

	"tontine/api"
	"tontine/smooth"
)

// roomy is a copy of l with spare room with something in it, and a way to tell all of that.
func roomy[T any](l []T, other T) ([]T, func() string) {
	room := append(append([]T(nil), l...), other, other, other)
	return room[:len(l)], func() string { return fmt.Sprint(room) }
}

// given is arguments of all kinds.
type given struct {
	died, exposed, weights []int
	seen, l                []api.Ratio
	floats                 []float64
	order, smooth, first   int
	name                   string
}

// calls are all calls of the package.
func calls() map[string]func(g given) string {
	return map[string]func(g given) string{
		"Crude":       func(g given) string { return tellList(smooth.Crude(g.died, g.exposed)) },
		"Differences": func(g given) string { return tellList(smooth.Differences(g.l, g.order)) },
		"Graduate":    func(g given) string { return tellList(smooth.Graduate(g.seen, g.weights, g.order, g.smooth)) },
		"Measure":     func(g given) string { return tellTwo(smooth.Measure(g.seen, g.weights, g.order, g.l)) },
		"Moment":      func(g given) string { return tell(smooth.Moment(g.seen, g.weights, g.l, g.order)) },
		"Floats":      func(g given) string { return tellFloats(smooth.Floats(g.floats, g.weights, g.order, g.smooth)) },
		"Spencer":     func(g given) string { return tellList(smooth.Spencer(g.l)) },
		"Table":       func(g given) string { return tellTable(smooth.Table(g.name, g.first, g.l)) },
	}
}

// right is arguments that no call refuses.
func right(n int) given {
	r := random(int64(n))
	g := given{order: 2, smooth: 3, name: "t", floats: anyFloats(r, n, false), seen: fromBigs(anyNumbers(r, n, 6)), l: fromBigs(anyNumbers(r, n, 6)), weights: make([]int, n), died: make([]int, n), exposed: make([]int, n)}
	for i := range n {
		g.weights[i], g.died[i] = 1+r.Intn(9), r.Intn(9)
		g.exposed[i] = g.died[i] + r.Intn(9)
	}
	return g
}

// R4: what is handed in stays as it is, spare room too; R7: the same call tells the same, whatever the capacity.
func TestArgumentsStay(t *testing.T) {
	for _, n := range []int{0, 1, 5, 20} {
		for _, order := range []int{2, 0, 9} { // the last ones are refused
			g := right(n)
			g.order = order
			h := g
			var tells []func() string
			keep := func(tell func() string) { tells = append(tells, tell) }
			var tell func() string
			h.died, tell = roomy(g.died, 77)
			keep(tell)
			h.exposed, tell = roomy(g.exposed, 77)
			keep(tell)
			h.weights, tell = roomy(g.weights, 77)
			keep(tell)
			h.seen, tell = roomy(g.seen, of("77"))
			keep(tell)
			h.l, tell = roomy(g.l, of("77"))
			keep(tell)
			h.floats, tell = roomy(g.floats, 77)
			keep(tell)
			all := func() string {
				texts := make([]string, len(tells))
				for i, tell := range tells {
					texts[i] = tell()
				}
				return strings.Join(texts, " ")
			}
			was := all()
			for name, call := range calls() {
				want(t, name+" of other lists", call(h), call(g))
				want(t, "what was handed to "+name, all(), was)
			}
		}
	}
}

// R3: lists without a member may be nil or empty.
func TestNoneIsNone(t *testing.T) {
	none := given{order: 1, name: "t"}
	empty := given{order: 1, name: "t", died: ints(), exposed: ints(), weights: ints(), seen: []api.Ratio{}, l: []api.Ratio{}, floats: []float64{}}
	for name, call := range calls() {
		want(t, name, call(empty), call(none))
	}
}

// lists are calls that answer a list of exact numbers.
func lists() map[string]func(g given) ([]api.Ratio, api.Errno) {
	return map[string]func(g given) ([]api.Ratio, api.Errno){
		"Crude":                       func(g given) ([]api.Ratio, api.Errno) { return smooth.Crude(g.died, g.exposed) },
		"Differences":                 func(g given) ([]api.Ratio, api.Errno) { return smooth.Differences(g.l, 2) },
		"Differences of order 0":      func(g given) ([]api.Ratio, api.Errno) { return smooth.Differences(g.l, 0) },
		"Graduate":                    func(g given) ([]api.Ratio, api.Errno) { return smooth.Graduate(g.seen, g.weights, 2, 3) },
		"Graduate without smoothness": func(g given) ([]api.Ratio, api.Errno) { return smooth.Graduate(g.seen, g.weights, 2, 0) },
		"Spencer":                     func(g given) ([]api.Ratio, api.Errno) { return smooth.Spencer(g.l) },
	}
}

// R4: an answer is its caller's own, spare room too: it shares nothing with an argument or another answer.
func TestAnswersAreNewMemory(t *testing.T) {
	for _, n := range []int{3, 20} {
		g := right(n)
		was := fmt.Sprint(g)
		for name, call := range lists() {
			first, _ := call(g)
			second, e := call(g)
			wanted := tellList(second, e)
			clear(first[:cap(first)])
			want(t, name+" beside another answer", tellList(second, e), wanted)
			want(t, name+" once more", tellList(call(g)), wanted)
			want(t, "what was handed to "+name, fmt.Sprint(g), was)
		}
		first, _ := smooth.Floats(g.floats, g.weights, 1, 0)
		second, e := smooth.Floats(g.floats, g.weights, 1, 0)
		wanted := tellFloats(second, e)
		clear(first[:cap(first)])
		want(t, "Floats beside another answer", tellFloats(second, e), wanted)
		want(t, "Floats once more", tellFloats(smooth.Floats(g.floats, g.weights, 1, 0)), wanted)
		table, _ := smooth.Table("t", 0, g.l)
		other, e := smooth.Table("t", 0, g.l)
		wanted = tellTable(other, e)
		clear(table.Rates[:cap(table.Rates)])
		want(t, "Table beside another answer", tellTable(other, e), wanted)
		want(t, "what was handed in", fmt.Sprint(g), was)
	}
}

// P1: no call panics, and each ends, whatever it is given; R5: what is beside an error is nothing; R7: the same call tells the same.
func TestNoCallPanics(t *testing.T) {
	numbers := []int{0, 1, -1, 2, api.MaxOrder, api.MaxOrder + 1, 60, api.MaxAge, heaviest, heaviest + 1, math.MaxInt, math.MinInt}
	lengths := []int{0, 1, 4, 5, 16, points, points + 1}
	for _, n := range lengths {
		for _, m := range lengths {
			g, other := right(n), right(m)
			g.weights, g.l, g.exposed = other.weights, other.l, other.exposed
			for _, w := range numbers {
				if len(g.weights) > 0 {
					g.weights[0], g.exposed[0] = w, w
				}
				g.order, g.first, g.smooth = numbers[(n+m+w&7)%len(numbers)], w, numbers[(n+3*m+w&15)%len(numbers)]
				for name, call := range calls() {
					first := call(g)
					want(t, name+" twice", call(g), first)
					if strings.Contains(first, "beside") {
						t.Errorf("%s: %s", name, short(first))
					}
				}
			}
		}
	}
}
