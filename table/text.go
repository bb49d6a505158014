package table

import (
	"strconv"
	"strings"

	"tontine/api"
	"tontine/exact"
)

const (
	headWord   = "table "
	selectWord = "select "
	endLine    = "end"
	point      = "."
	places     = 7 // digits of a rate behind the point
	ageDigits  = 3 // of an age, at most
)

// Text is the text of a table (9.7).
func Text(t api.Table) (string, api.Errno) {
	if e := Check(t); e != api.OK {
		return "", e
	}
	lines := append([]string{headWord + t.Name}, rateLines(t.First, t.Rates)...)
	for d := range len(t.Select) {
		lines = append(lines, selectLine(d))
		lines = append(lines, rateLines(t.First, t.Select[d])...)
	}
	return strings.Join(append(lines, endLine), "\n") + "\n", api.OK
}

func selectLine(d int) string { return selectWord + strconv.Itoa(d) }

func rateLines(first int, rates []int) []string {
	lines := make([]string, len(rates))
	for k := range len(rates) {
		behind := strconv.Itoa(api.Unit + rates[k]%api.Unit)[1:] // a 1 ahead keeps the noughts
		lines[k] = strconv.Itoa(first+k) + " " + strconv.Itoa(rates[k]/api.Unit) + point + behind
	}
	return lines
}

// Parse is the table whose text is s, or where s is wrong (9.7).
func Parse(s string) (api.Table, api.Fault) {
	if len(s) > api.MaxText {
		return api.Table{}, api.Fault{Code: api.ErrLong}
	}
	r := reader{s}
	t, ok := r.table()
	if !ok {
		return api.Table{}, api.Fault{At: len(s) - len(r.rest), Code: api.ErrForm}
	}
	if e := Check(t); e != api.OK {
		return api.Table{}, api.Fault{Code: e}
	}
	return t, api.Fault{}
}

// reader is what is left of a text from the first line on that was not taken.
type reader struct {
	rest string
}

// take goes on behind the next line, if there is one and it can stand there.
func (r *reader) take(canStand func(line string) bool) bool {
	line, rest, ends := strings.Cut(r.rest, "\n")
	if !ends || !canStand(line) {
		return false
	}
	r.rest = rest
	return true
}

// takeLine goes on behind the next line, if it is this one.
func (r *reader) takeLine(wanted string) bool {
	return r.take(func(line string) bool { return line == wanted })
}

// table is the table whose lines are all that is left, and whether they all can stand.
func (r *reader) table() (api.Table, bool) {
	var t api.Table
	head := func(line string) bool {
		name, found := strings.CutPrefix(line, headWord)
		t.Name = strings.Clone(name)
		return found && isName(name)
	}
	if !r.take(head) {
		return t, false
	}
	t.First = r.nextAge()
	t.Rates = r.rates(t.First)
	if len(t.Rates) == 0 {
		return t, false
	}
	for r.takeLine(selectLine(len(t.Select))) {
		rates := r.rates(t.First)
		if len(rates) == 0 {
			return t, false
		}
		t.Select = append(t.Select, rates)
	}
	return t, r.takeLine(endLine) && r.rest == ""
}

// nextAge is the age that the next line tells; if it tells none, it is no line of a rate, whatever is answered.
func (r *reader) nextAge() int {
	line, _, _ := strings.Cut(r.rest, "\n")
	age, _, _ := readLine(line)
	return age
}

// rates goes on behind the lines of an age and a rate, the ages being first and so on, as many as stand there.
func (r *reader) rates(first int) []int {
	var rates []int
	next := func(line string) bool {
		age, rate, ok := readLine(line)
		if !ok || age != first+len(rates) {
			return false
		}
		rates = append(rates, rate)
		return true
	}
	for r.take(next) {
	}
	return rates
}

// readLine is the age and the rate of a line, and whether it is one of both.
func readLine(line string) (int, int, bool) {
	years, part, _ := strings.Cut(line, " ")
	above, behind, _ := strings.Cut(part, point)
	if !exact.IsNatural(years) || len(years) > ageDigits || len(above) != 1 || len(behind) != places || !exact.IsDigits(above+behind) {
		return 0, 0, false
	}
	age, _ := strconv.Atoi(years)
	rate, _ := strconv.Atoi(above + behind)
	if rate > api.Unit {
		return 0, 0, false
	}
	return age, rate, true
}
