package span_test

import (
	"fmt"
	"strconv"
	"strings"
	"testing"

	"tontine/api"
	"tontine/span"
)

// 5.8, 5.12: texts, there and back.
func TestTexts(t *testing.T) {
	for s, a := range map[string]api.Span{
		"[0, 0]": {}, "[-inf, inf]": line, "[0.25, inf]": of(0.25, inf), "[-inf, -1e-7]": of(-inf, -1e-7), "[1, 2]": of(1, 2), "[-2, -1]": of(-2, -1), "[-1, 0]": of(-1, 0), "[0, 5e-324]": of(0, least), "[-1.7976931348623157e308, 1.7976931348623157e308]": of(-greatest, greatest), "[0.3333333333333333, 0.33333333333333337]": of(0.3333333333333333, 0.33333333333333337), "[100000000000000000000, 1e21]": of(1e20, 1e21), "[0.000001, 0.1]": of(0.000001, 0.1),
	} {
		want(t, "Text", tellText(span.Text(a)), s)
		want(t, "Parse of "+s, tell(span.Parse(s)), toldSpan(a))
	}
	r := random(10)
	for _, a := range append(edgeSpans(), anySpans(r, 3000)...) {
		s, e := span.Text(a)
		if e != api.OK {
			t.Fatalf("Text of %s: %v", toldSpan(a), e)
		}
		want(t, "Parse of "+s, tell(span.Parse(s)), toldSpan(a))
		shortest := func(x float64) string { return strconv.FormatFloat(x, 'g', -1, 64) }
		lo, hi, _ := strings.Cut(s[1:len(s)-1], ", ")
		for text, x := range map[string]float64{lo: a.Lo, hi: a.Hi} { // the ends by another way
			if back, err := strconv.ParseFloat(text, 64); err != nil || back != x || len(text) > 4+max(21, len(shortest(x))) {
				t.Errorf("%s in %s is not %s", text, s, shortest(x))
			}
		}
	}
}

// 5.8: texts that are no span's, one by one.
func TestNoTexts(t *testing.T) {
	for _, s := range []string{
		"", " ", "[", "]", "[]", "[,]", "[, ]", ", ", ",", "[1]", "[1, ]", "[, 1]", "1, 2", "[1, 2", "1, 2]", "(1, 2)", "{1, 2}", "]1, 2[", "[[1, 2]]", "[1, 2]]", "[[1, 2]", "[1,2]", "[1 , 2]", "[1,  2]", "[ 1, 2]", "[1, 2 ]", "[1, 2] ", " [1, 2]", "[1, 2]\n", "[1;2]", "[1 2]", "[1,\t2]", "[1, 2, 3]", "[1, 2], [3, 4]", "[1, 2][1, 2]",
		"[2, 1]", "[0, -1]", "[5e-324, 0]", "[inf, inf]", "[-inf, -inf]", "[inf, -inf]", "[inf, 1]", "[1, -inf]", "[-0, 1]", "[-1, -0]", "[-0, -0]", "[-0, 0]", "[0, -0]", "[nan, 1]", "[1, nan]", "[nan, nan]",
		"[1.0, 2]", "[1, 2.0]", "[01, 2]", "[1, 02]", "[+1, 2]", "[1, +2]", "[1e0, 2]", "[1, 2e0]", "[1, 1e20]", "[.5, 1]", "[0.5, 1.]", "[0.50, 1]", "[1, 1E21]", "[1, 1e+21]", "[1, 1e021]", "[1e-6, 1]", "[0x1p0, 2]", "[1, Inf]", "[-Inf, 1]", "[1, +inf]", "[1, infinity]", "[1_0, 20]", "[0.1000000000000000055511151231257827, 1]", "[0.3333333333333333, 0.333333333333333370]", "[1, 9007199254740993]", "[1, 1e400]", "[0, 1e-400]", "[0, 2e-324]", "[0, 3e-324]", "[-1e400, 1]", "[00, 1]", "[0.0, 1]", "[x, 1]", "[1, x]", "[1, 2\x00]", "\x00", "[\xff, 1]", "[\uff11, 2]", "[1\u00a0, 2]",
	} {
		want(t, fmt.Sprintf("Parse of %q", s), tell(span.Parse(s)), api.ErrForm.Error())
	}
	for _, s := range []string{"[1, 2]", "[-inf, inf]", "[0.25, inf]"} {
		for i := range s { // each byte left away, twice, another one
			for _, changed := range []string{s[:i] + s[i+1:], s[:i+1] + s[i:], s[:i] + "x" + s[i+1:]} {
				a, e := span.Parse(changed)
				if back, _ := span.Text(a); e != api.ErrForm && (e != api.OK || back != changed) {
					t.Errorf("Parse of %q: %s", changed, tell(a, e))
				}
			}
		}
	}
}

// 5.8: a text that is too long, whatever it is; one that is just as long as may be is looked at.
func TestLongTexts(t *testing.T) {
	for _, s := range []string{"[1, 2]", "[0.", "x", "[", ", ", "1"} {
		want(t, "too long", tell(span.Parse(s+strings.Repeat("1", api.MaxText+1-len(s)))), api.ErrLong.Error())
		want(t, "far too long", tell(span.Parse(strings.Repeat(s, api.MaxText+1))), api.ErrLong.Error())
		want(t, "long", tell(span.Parse(s+strings.Repeat("1", api.MaxText-len(s)))), api.ErrForm.Error())
	}
	most := "[0.1" + strings.Repeat("0", api.MaxText-8) + ", 1]"
	want(t, "as long as may be", tell(span.Parse(most)), api.ErrForm.Error())
	want(t, "one more", tell(span.Parse(most+"x")), api.ErrLong.Error())
	want(t, "a span behind noughts", tell(span.Parse("["+strings.Repeat("0", 60000)+"1, 2]")), api.ErrForm.Error())
}
