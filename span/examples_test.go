package span_test

import (
	"testing"

	"tontine/api"
	"tontine/span"
)

// The chapter's Examples 1 to 4.

func TestExample1(t *testing.T) {
	third := api.Ratio{Num: "1", Den: "3"}
	want(t, "Of", tell(span.Of(third, third)), toldSpan(of(0.3333333333333333, 0.33333333333333337)))
	want(t, "Add", tell(span.Add(of(1, 2), of(3, 4))), toldSpan(of(4, 6)))
	want(t, "Sub", tell(span.Sub(of(1, 2), of(1, 2))), toldSpan(of(-1, 1)))
	want(t, "Mul", tell(span.Mul(of(-1, 2), of(3, 4))), toldSpan(of(-4, 8)))
}

func TestExample2(t *testing.T) {
	want(t, "Div", tell(span.Div(of(1, 2), of(0, 4))), toldSpan(of(0.25, inf)))
	want(t, "Div", tell(span.Div(of(1, 2), of(-1, 1))), toldSpan(line))
	want(t, "Div", tell(span.Div(of(0, 0), of(-1, 1))), toldSpan(of(0, 0)))
	for _, a := range edgeSpans() {
		want(t, "Div of anything", tell(span.Div(a, of(0, 0))), api.ErrZero.Error())
	}
}

func TestExample3(t *testing.T) {
	want(t, "Pow", tell(span.Pow(of(-2, 1), 2)), toldSpan(of(0, 4)))
	want(t, "Pow", tell(span.Pow(of(-2, 1), 3)), toldSpan(of(-8, 1)))
	want(t, "Root", tell(span.Root(of(-1, 4))), toldSpan(of(0, 2)))
	want(t, "Meet", tell(span.Meet(of(0, 1), of(1, 2))), toldSpan(of(1, 1)))
	want(t, "Meet", tell(span.Meet(of(0, 1), of(2, 3))), api.ErrNone.Error())
}

func TestExample4(t *testing.T) {
	want(t, "Sum", tell(span.Sum(points(1, 1e-30, -1))), toldSpan(point(1e-30)))
	want(t, "Text", tellText(span.Text(line)), "[-inf, inf]")
}
