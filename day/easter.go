package day

import "tontine/api"

// Easter is the Sunday of Easter (7.2, 7.8). The letters are the chapter's.
func Easter(year int) (api.Date, api.Errno) {
	if !isYear(year) {
		return api.Date{}, api.ErrRange
	}
	a, b, c := year%19, year/100, year%100
	d, e := b/4, b%4
	f := (b + 8) / 25
	g := (b - f + 1) / 3
	h := (19*a + b - d - g + 15) % 30
	i, k := c/4, c%4
	l := (32 + 2*e + 2*i - h - k) % 7
	m := (a + 11*h + 22*l) / 451
	n := h + l - 7*m + 114
	return api.Date{Year: year, Month: n / 31, Day: n%31 + 1}, api.OK
}
