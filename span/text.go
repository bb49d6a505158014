package span

import (
	"strings"

	"tontine/api"
	"tontine/digits"
)

// What stands ahead of the ends, between them and behind them.
const (
	opening = "["
	comma   = ", "
	closing = "]"
)

// Text is both ends in brackets (5.8).
func Text(a api.Span) (string, api.Errno) {
	if e := Check(a); e != api.OK {
		return "", e
	}
	return opening + digits.Text(a.Lo) + comma + digits.Text(a.Hi) + closing, api.OK
}

// Parse is the span whose text is s (5.8). Only that span can stand in s whose ends are read there; whether s is its text is told by writing it again.
func Parse(s string) (api.Span, api.Errno) {
	if len(s) > api.MaxText {
		return api.Span{}, api.ErrLong
	}
	low, high, _ := strings.Cut(s, comma)
	lo, _ := digits.Parse(strings.TrimPrefix(low, opening))
	hi, _ := digits.Parse(strings.TrimSuffix(high, closing))
	a := api.Span{Lo: lo, Hi: hi}
	if text, e := Text(a); e != api.OK || text != s {
		return api.Span{}, api.ErrForm
	}
	return a, api.OK
}
