package money

import (
	"strconv"
	"strings"

	"tontine/api"
	"tontine/exact"
)

const (
	pound       = 100 // pennies
	point       = "."
	places      = 2       // digits of the pennies behind the point
	minusNought = "-0.00" // the one that has the form of a text and is none
)

// Show is the text of an amount (6.5).
func Show(p int) (string, api.Errno) {
	if !isAmount(p) {
		return "", api.ErrMoney
	}
	size := max(p, -p)
	behind := strconv.Itoa(pound + size%pound)[1:] // a 1 ahead keeps the 0 of less than ten pennies
	return exact.WithSign(p < 0, strconv.Itoa(size/pound)) + point + behind, api.OK
}

// Read is the amount whose text is s, or where s is wrong (6.5).
func Read(s string) (int, api.Fault) {
	if len(s) > api.MaxText {
		return 0, api.Fault{Code: api.ErrLong}
	}
	if at, ok := begin(s); !ok {
		return 0, api.Fault{At: at, Code: api.ErrForm}
	}
	neg, digits := exact.CutSign(strings.Replace(s, point, "", 1))
	size, err := strconv.Atoi(digits)
	switch {
	case err != nil || !isAmount(size): // an error: it is not even an int
		return 0, api.Fault{Code: api.ErrMoney}
	case neg:
		return -size, api.Fault{}
	}
	return size, api.Fault{}
}

// begin is how many bytes of s begin a text of a whole number of pennies, and whether s is one.
func begin(s string) (int, bool) {
	_, size := exact.CutSign(s)
	pounds := digitsAhead(size, len(size))
	if strings.HasPrefix(size, "0") {
		pounds = 1
	}
	at := len(s) - len(size) + pounds
	if pounds == 0 || !strings.HasPrefix(s[at:], point) {
		return at, false
	}
	behind := at + len(point)
	end := behind + digitsAhead(s[behind:], places)
	if s[:end] == minusNought {
		return end - 1, false
	}
	return end, end == behind+places && end == len(s)
}

// digitsAhead is with how many digits s begins, but so many at most.
func digitsAhead(s string, most int) int {
	n := 0
	for n < len(s) && n < most && s[n] >= '0' && s[n] <= '9' {
		n++
	}
	return n
}
