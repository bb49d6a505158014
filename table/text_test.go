package table_test

import (
	"fmt"
	"math/rand"
	"regexp"
	"strconv"
	"strings"
	"testing"

	"tontine/api"
	"tontine/table"
)

// written is the text of a table, by the words of 9.7.
func written(a api.Table) string {
	s := "table " + a.Name + "\n"
	lines := func(rates []int) {
		for k, q := range rates {
			s += fmt.Sprintf("%d %d.%07d\n", a.First+k, q/unit, q%unit)
		}
	}
	lines(a.Rates)
	for d, l := range a.Select {
		s += fmt.Sprintf("select %d\n", d)
		lines(l)
	}
	return s + "end\n"
}

// 9.7: Text, by its words; 9.11: there and back.
func TestText(t *testing.T) {
	all := tables()
	for _, name := range []string{"a", "end", "table", "select", "z_9", strings.Repeat("m", api.MaxName)} {
		all = append(all, changed(chosen(), func(t *api.Table) { t.Name = name }))
	}
	for _, a := range all {
		text, e := table.Text(a)
		want(t, "Text", tellText(text, e), written(a))
		back, f := table.Parse(text)
		want(t, "Parse of Text", tellParsed(back, f), tellTable(a, api.OK)+" at 0")
		want(t, "Text of Parse", tellText(table.Text(back)), text)
	}
	want(t, "Text with Select", tellText(table.Text(changed(chosen(), func(t *api.Table) { t.First, t.Rates[1], t.Select[0][2] = 0, 9999999, 1 }))),
		"table t\n0 0.1000000\n1 0.9999999\n2 0.5000000\n3 1.0000000\nselect 0\n0 0.0500000\n1 0.1000000\n2 0.0000001\n3 1.0000000\nend\n")
}

// 9.7: the longest text that there is can be parsed.
func TestLongestText(t *testing.T) {
	a := tableOf(0, oldest+1, api.MaxSelect, func(d, k int) int { return 9999999 })
	a.Name = strings.Repeat("z", api.MaxName)
	text, e := table.Text(a)
	if e != api.OK || len(text) > api.MaxText {
		t.Fatal(len(text), e)
	}
	want(t, "Parse", tellParsed(table.Parse(text)), tellTable(a, api.OK)+" at 0")
}

// The parts of a text of which faults are made.
const (
	head  = "table t\n"
	rates = "60 0.1000000\n61 1.0000000\n"
	sel0  = "select 0\n60 0.2000000\n61 1.0000000\n"
	sel1  = "select 1\n60 1.0000000\n"
	end   = "end\n"
)

// 9.7: lines that cannot stand, each at its place; nothing else is told of what stands behind it.
func TestNoLines(t *testing.T) {
	wrong := []string{
		"", "x", "\n", " ", "ends", "end ", " end", "End", "end\r", "table", "table ", "table T", "table t ", "table  t", " table t", "table\tt", "Table t", "tablet", "table t\r", "table 9", "table " + strings.Repeat("a", api.MaxName+1),
		"60", "60 ", "60 0", "60 0.", "60 0.1", "60 0.100000", "60 0.10000000", "60 .1000000", "60 0,1000000", "60  0.1000000", " 60 0.1000000", "60 0.1000000 ", "60 0.1000000\r", "60\t0.1000000", "60 00.1000000", "60 -0.100000", "60 -0.1000000", "60 +0.1000000",
		"60 1.0000001", "60 1.1000000", "60 2.0000000", "60 9.9999999", "60 0.100000x", "60 0.1000 00", "60 0.100000٣", "60 0x1000000", "60 0.1e00000", "60 0.-100000", "60 0.+100000",
		"+60 0.1000000", "-60 0.1000000", "060 0.1000000", "60.0 0.1000000", "x 0.1000000", " 0.1000000", "0.1000000", "6O 0.1000000", "1000 0.1000000", "0000 0.1000000", "-0 0.1000000", "00 0.1000000",
		"select", "select ", "select x", "select 00", "select -0", "select +0", "select 0 ", "select  0", "Select 0", " select 0", "select0", "select 3", "select 10", "select 99999999999999999999", "select -1", "select 0.0", "select\t0",
		"ten\x00", "\xff\xfe",
	}
	for _, ahead := range []string{"", head, head + rates, head + rates + "select 0\n", head + rates + sel0, head + rates + sel0 + "select 1\n", head + rates + sel0 + sel1} {
		at := len(ahead)
		for _, line := range wrong {
			for _, behind := range []string{"", end, rates + end, head + rates + end, "rubbish"} {
				want(t, fmt.Sprintf("Parse of %q", ahead+line+"\n"+behind), tellParsed(table.Parse(ahead+line+"\n"+behind)), fault(at, api.ErrForm))
			}
		}
	}
}

// 9.7: lines at wrong places, lines that lack, and a last line without its line feed.
func TestLinesAtWrongPlaces(t *testing.T) {
	at := func(lines ...string) int { return len(strings.Join(lines, "")) }
	for _, c := range []struct {
		text string
		at   int
	}{
		{"", 0}, {"t", 0}, {"table t", 0}, {"end", 0}, {end, 0}, {rates + end, 0}, {sel0 + end, 0}, {"\n" + head + rates + end, 0},
		{head, at(head)}, {head + end, at(head)}, {head + sel0 + end, at(head)}, {head + head + rates + end, at(head)}, {head + "\n" + rates + end, at(head)},
		{head + "60 1.0000000", at(head)}, {head + "60 1.0000000" + end, at(head)}, {head + "60 1.0000000 " + end, at(head)},
		{head + rates, at(head, rates)}, {head + rates + "end", at(head, rates)}, {head + rates + head + end, at(head, rates)}, {head + rates + "e", at(head, rates)},
		{head + rates + rates + end, at(head, rates)}, {head + rates + "61 1.0000000\n" + end, at(head, rates)}, {head + rates + "63 1.0000000\n" + end, at(head, rates)}, {head + rates + "0 1.0000000\n" + end, at(head, rates)},
		{head + rates + sel1 + end, at(head, rates)}, {head + rates + sel1 + sel0 + end, at(head, rates)}, {head + rates + "select 0", at(head, rates)},
		{head + rates + "select 0\n", at(head, rates, "select 0\n")}, {head + rates + "select 0\n" + end, at(head, rates, "select 0\n")}, {head + rates + "select 0\n" + sel0 + end, at(head, rates, "select 0\n")}, {head + rates + "select 0\n" + sel1 + end, at(head, rates, "select 0\n")},
		{head + rates + "select 0\n61 1.0000000\n" + end, at(head, rates, "select 0\n")}, {head + rates + "select 0\n59 1.0000000\n" + end, at(head, rates, "select 0\n")}, {head + rates + "select 0\n0 1.0000000\n" + end, at(head, rates, "select 0\n")},
		{head + rates + "select 0\n60 1.0000000", at(head, rates, "select 0\n")}, {head + rates + "select 0\n60 0.0000000\n62 1.0000000\n" + end, at(head, rates, "select 0\n60 0.0000000\n")},
		{head + rates + sel0, at(head, rates, sel0)}, {head + rates + sel0 + sel0 + end, at(head, rates, sel0)}, {head + rates + sel0 + "end", at(head, rates, sel0)}, {head + rates + sel0 + "select 2\n60 1.0000000\n" + end, at(head, rates, sel0)},
		{head + rates + sel0 + "60 0.1000000\n" + end, at(head, rates, sel0)}, {head + rates + sel0 + head + end, at(head, rates, sel0)},
		{head + rates + end + "\n", at(head, rates, end)}, {head + rates + end + "x", at(head, rates, end)}, {head + rates + end + end, at(head, rates, end)}, {head + rates + end + " \n", at(head, rates, end)}, {head + rates + end + head + rates + end, at(head, rates, end)}, {head + rates + end + sel0, at(head, rates, end)},
		{head + rates + sel0 + sel1 + end + "\x00", at(head, rates, sel0, sel1, end)},
		{"table t\r\n" + rates + end, 0}, {head + "60 0.1000000\r\n61 1.0000000\n" + end, at(head)},
	} {
		want(t, fmt.Sprintf("Parse of %q", c.text), tellParsed(table.Parse(c.text)), fault(c.at, api.ErrForm))
	}
	whole := head + rates + sel0 + sel1 + end
	if _, f := table.Parse(whole); f != (api.Fault{}) {
		t.Fatal(f)
	}
	for n := range len(whole) { // the text is cut off: its last line lacks, or its end
		want(t, fmt.Sprintf("Parse of %q", whole[:n]), tellParsed(table.Parse(whole[:n])), fault(strings.LastIndex(whole[:n], "\n")+1, api.ErrForm))
	}
}

// 9.7: all lines can stand, but the table is not right: Check's error.
func TestLinesOfNoTable(t *testing.T) {
	selects := func(n int) string {
		s := ""
		for d := range n {
			s += "select " + strconv.Itoa(d) + "\n5 1.0000000\n"
		}
		return s
	}
	ages := func(first, count int) string {
		s := ""
		for k := range count - 1 {
			s += strconv.Itoa(first+k) + " 0.0000000\n"
		}
		return s + strconv.Itoa(first+count-1) + " 1.0000000\n"
	}
	for _, c := range []struct {
		lines string
		e     api.Errno
	}{
		{"5 0.5000000\n", api.ErrRates}, {"5 0.0000000\n6 0.0000000\n", api.ErrRates}, {"5 1.0000000\n6 1.0000000\n", api.ErrRates}, {"5 1.0000000\n6 0.0000000\n", api.ErrRates},
		{ages(131, 1), api.ErrAge}, {ages(999, 1), api.ErrAge}, {ages(130, 2), api.ErrAge}, {ages(0, 132), api.ErrAge}, {ages(0, 1000), api.ErrAge}, {"131 0.5000000\n", api.ErrAge},
		{rates + "select 0\n60 1.0000000\n", api.ErrRates}, {rates + "select 0\n60 0.0000000\n61 0.0000000\n", api.ErrRates}, {rates + "select 0\n60 0.0000000\n61 0.0000000\n62 1.0000000\n", api.ErrRates},
		{rates + sel0 + "select 1\n60 0.0000000\n", api.ErrRates}, {rates + sel0 + sel1 + "select 2\n60 1.0000000\n", api.ErrRates},
		{"5 1.0000000\n" + selects(2), api.ErrRates}, {"5 1.0000000\n" + selects(100), api.ErrRates}, {"999 1.0000000\nselect 0\n999 0.1234567\n", api.ErrAge},
	} {
		want(t, fmt.Sprintf("Parse of %q", c.lines), tellParsed(table.Parse(head+c.lines+end)), fault(0, c.e))
	}
	thousand := head + ages(0, 1001) + end // the last age has four digits: its line cannot stand
	want(t, "Parse of ages up to 1000", tellParsed(table.Parse(thousand)), fault(strings.Index(thousand, "1000 "), api.ErrForm))
	want(t, "Parse of just one select", tellParsed(table.Parse(head+"5 1.0000000\n"+selects(1)+end)), "t 5 [10000000] [[10000000]] at 0")
}

// 9.7, R3: texts of MaxText bytes, and of one more, whatever they say.
func TestLongTexts(t *testing.T) {
	right := head + rates + end
	for _, s := range []string{right + strings.Repeat("x", api.MaxText), strings.Repeat("x", 2*api.MaxText), strings.Repeat("\n", 2*api.MaxText), right + strings.Repeat("\n", api.MaxText)} {
		at := 0
		if strings.HasPrefix(s, right) {
			at = len(right)
		}
		want(t, "Parse of MaxText bytes", tellParsed(table.Parse(s[:api.MaxText])), fault(at, api.ErrForm))
		want(t, "Parse of one more", tellParsed(table.Parse(s[:api.MaxText+1])), fault(0, api.ErrLong))
	}
	long := standing(t, api.MaxText)
	want(t, "Parse of MaxText bytes of lines that can stand", tellParsed(table.Parse(long)), fault(0, api.ErrRates))
	want(t, "Parse of one more", tellParsed(table.Parse(standing(t, api.MaxText+1))), fault(0, api.ErrLong))
	want(t, "Parse of MaxText bytes without the last", tellParsed(table.Parse(long[:api.MaxText-1])), fault(api.MaxText-len(end), api.ErrForm))
}

// standing is a text of so many bytes, whose lines all can stand.
func standing(t *testing.T, size int) string {
	t.Helper()
	for name := 1; name <= api.MaxName; name++ {
		for count := 1; count <= 5; count++ {
			s := []byte("table " + strings.Repeat("a", name) + "\n")
			for k := range count {
				s = fmt.Appendf(s, "%d 1.0000000\n", k)
			}
			for d := 0; len(s)+len(end) < size; d++ {
				s = fmt.Appendf(s, "select %d\n0 1.0000000\n", d)
			}
			if len(s)+len(end) == size {
				return string(s) + end
			}
		}
	}
	t.Fatal("no text of", size, "bytes")
	return ""
}

// Forms of lines.
var (
	nameForm   = regexp.MustCompile(`\Atable ([a-z][a-z0-9_]{0,23})\n\z`)
	rateForm   = regexp.MustCompile(`\A(0|[1-9][0-9]{0,2}) (?:0\.([0-9]{7})|1\.0000000)\n\z`)
	selectForm = regexp.MustCompile(`\Aselect (0|[1-9][0-9]*)\n\z`)
)

// parsed is what Parse tells, by another way: each line is held against the forms that can stand behind those ahead.
func parsed(s string) string {
	var a api.Table
	var list *[]int // to which the next rate goes
	at, ended := 0, false
	for i, line := range strings.SplitAfter(s, "\n") {
		m, q, d := nameForm.FindStringSubmatch(line), rateForm.FindStringSubmatch(line), selectForm.FindStringSubmatch(line)
		some := list != nil && len(*list) > 0
		switch {
		case line == "" && ended:
			return tellParsed(a, api.Fault{})
		case ended:
			return fault(at, api.ErrForm)
		case i == 0 && m != nil:
			a.Name, list = m[1], &a.Rates
		case i > 0 && q != nil && (q[1] == strconv.Itoa(a.First+len(*list)) || len(a.Rates) == 0):
			if len(a.Rates) == 0 {
				a.First, _ = strconv.Atoi(q[1])
			}
			rate, err := strconv.Atoi(q[2])
			if err != nil {
				rate = unit
			}
			*list = append(*list, rate)
		case some && d != nil && d[1] == strconv.Itoa(len(a.Select)):
			a.Select = append(a.Select, nil)
			list = &a.Select[len(a.Select)-1]
		case some && line == end:
			ended = true
			if e := table.Check(a); e != api.OK && len(s) == at+len(line) {
				return fault(0, e)
			}
		default:
			return fault(at, api.ErrForm)
		}
		at += len(line)
	}
	return "nothing"
}

// 9.7: texts at random, near to right ones.
func TestParseAtRandom(t *testing.T) {
	r := random(97)
	pieces := []string{head, rates, sel0, sel1, end, "select 0\n", "select 1\n", "60 0.1000000\n", "61 1.0000000\n", "60 1.0000000\n", "0 1.0000000\n", "\n", " ", "x", "0", "1.", "table ", "9", "60 "}
	right := 0
	for range 60000 {
		s := randomText(r, pieces)
		got := tellParsed(table.Parse(s))
		if !strings.HasPrefix(got, "error") {
			right++
		}
		want(t, fmt.Sprintf("Parse of %q", s), got, parsed(s))
	}
	if right < 1000 {
		t.Error("only", right, "texts were right")
	}
}

// randomText is a text that is right, or not far from it, or made of pieces.
func randomText(r *rand.Rand, pieces []string) string {
	s := written(tableOf(r.Intn(130), 1, r.Intn(2), func(int, int) int { return 0 }))
	if r.Intn(2) == 0 {
		s = head + rates + []string{"", sel0, sel0 + sel1}[r.Intn(3)] + end
	}
	for range r.Intn(3) {
		at := r.Intn(len(s) + 1)
		to := at + r.Intn(min(3, len(s)-at+1))
		switch r.Intn(4) {
		case 0:
			s = s[:at] + s[to:]
		case 1:
			s = s[:at] + pieces[r.Intn(len(pieces))] + s[to:]
		case 2:
			s = s[:at] + string([]byte{byte(32 + r.Intn(96))}) + s[to:]
		default: // a whole line twice, or not at all
			lines := strings.SplitAfter(s, "\n")
			i := r.Intn(len(lines))
			lines[i] = strings.Repeat(lines[i], 2*r.Intn(2))
			s = strings.Join(lines, "")
		}
	}
	return s
}
