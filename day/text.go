package day

import (
	"strconv"

	"tontine/api"
)

// form is that of a date's text: 0 stands for any digit.
const form = "0000-00-00"

// Text is the text of a date (7.10).
func Text(d api.Date) (string, api.Errno) {
	if e := Check(d); e != api.OK {
		return "", e
	}
	return padded(d.Year, 10000) + "-" + padded(d.Month, 100) + "-" + padded(d.Day, 100), api.OK
}

// Parse is the date whose text is s (7.10).
func Parse(s string) (api.Date, api.Errno) {
	if len(s) > api.MaxText {
		return api.Date{}, api.ErrLong
	}
	if !hasForm(s) {
		return api.Date{}, api.ErrForm
	}
	d := api.Date{Year: digitsOf(s[:4]), Month: digitsOf(s[5:7]), Day: digitsOf(s[8:])}
	if e := Check(d); e != api.OK {
		return api.Date{}, e
	}
	return d, api.OK
}

// padded is the digits of n, with as many 0 ahead as the power of ten asks for: its 1 ahead keeps them, and is cut off.
func padded(n, ten int) string {
	return strconv.Itoa(ten + n)[1:]
}

func hasForm(s string) bool {
	if len(s) != len(form) {
		return false
	}
	for i := range len(form) {
		isDigit := form[i] == '0' && s[i] >= '0' && s[i] <= '9'
		if !isDigit && s[i] != form[i] {
			return false
		}
	}
	return true
}

// digitsOf is the number of a few digits; they were looked at, so that nothing can be wrong with them.
func digitsOf(s string) int {
	n, _ := strconv.Atoi(s)
	return n
}
