package day_test

import (
	"fmt"
	"regexp"
	"strconv"
	"strings"
	"testing"

	"tontine/api"
	"tontine/day"
)

// 7.10: texts of dates.
func TestText(t *testing.T) {
	for _, c := range []struct {
		d      api.Date
		wanted string
	}{
		{api.Date{Year: 1, Month: 1, Day: 1}, "0001-01-01"}, {api.Date{Year: 45, Month: 10, Day: 9}, "0045-10-09"}, {api.Date{Year: 987, Month: 1, Day: 20}, "0987-01-20"}, {api.Date{Year: 1000, Month: 9, Day: 30}, "1000-09-30"}, {api.Date{Year: 2024, Month: 2, Day: 29}, "2024-02-29"}, {api.Date{Year: 9999, Month: 12, Day: 31}, "9999-12-31"},
	} {
		want(t, "Text", tellText(day.Text(c.d)), c.wanted)
		want(t, "Parse", tell(day.Parse(c.wanted)), c.wanted)
	}
	r := random(88)
	for range 2000 {
		d := anyDate(r)
		want(t, "Text", tellText(day.Text(d)), text(d))
	}
}

var form = regexp.MustCompile(`\A([0-9]{4})-([0-9]{2})-([0-9]{2})\z`)

// parseOf is what 7.10 says of a text that is not too long.
func parseOf(s string) string {
	m := form.FindStringSubmatch(s)
	if m == nil {
		return api.ErrForm.Error()
	}
	var n [3]int
	for i := range n {
		n[i], _ = strconv.Atoi(m[i+1])
	}
	d := api.Date{Year: n[0], Month: n[1], Day: n[2]}
	if !isRight(d) {
		return api.ErrDate.Error()
	}
	return text(d)
}

// checkParse holds Parse to 7.10, and to 7.11: what was read is written as it stood.
func checkParse(t *testing.T, s string) {
	t.Helper()
	d, e := day.Parse(s)
	want(t, fmt.Sprintf("Parse of %q", s), tell(d, e), parseOf(s))
	if e == api.OK {
		want(t, "Text of Parse", tellText(day.Text(d)), s)
	}
}

// 7.10: texts that are wrong in one byte, of all bytes, at each place; with one more, and one less.
func TestParseByteByByte(t *testing.T) {
	for _, s := range []string{"2024-02-29", "0001-01-01", "9999-12-31", "1999-10-30"} {
		for at := range len(s) + 1 {
			checkParse(t, s[:at])
			checkParse(t, s[at:])
			for b := range 256 {
				checkParse(t, s[:at]+string([]byte{byte(b)})+s[at:])
				if at < len(s) {
					checkParse(t, s[:at]+string([]byte{byte(b)})+s[at+1:])
				}
			}
			if at < len(s) {
				checkParse(t, s[:at]+s[at+1:])
			}
		}
	}
}

// 7.10: all months and days that have the form, of some years.
func TestParseOfAllDays(t *testing.T) {
	for _, year := range []string{"0000", "0001", "0004", "0100", "0400", "1900", "2000", "2023", "2024", "9999"} {
		for month := range 100 {
			for d := range 100 {
				checkParse(t, fmt.Sprintf("%s-%02d-%02d", year, month, d))
			}
		}
	}
}

// 7.10: texts that are wrong, one by one.
func TestParseOfWrongTexts(t *testing.T) {
	for _, s := range []string{"", "-", "--", "2024", "2024-02", "2024-2-29", "2024-02-9", "24-02-29", "02024-02-29", "2024-002-29", "2024-02-029", "2024/02/29", "2024.02.29", "20240229", "2024-02-29 ", " 2024-02-29", "2024-02-29\n", "+024-02-29", "-024-02-29", "2024-+2-29", "2024--2-29", "2024-02-+9", "2024-02--9", "2024-0x-29", "2024-02-2\x00", "2024- 2-29", "\u0662024-02-29", "2024\u201302-29", "1e03-02-29", "0x20-02-29", "1_00-02-29", "2024-02-29T00", "10000-01-01", "2024-02\xff29"} {
		want(t, fmt.Sprintf("Parse of %q", s), tell(day.Parse(s)), api.ErrForm.Error())
		checkParse(t, s)
	}
	for _, s := range []string{"0000-01-01", "0000-00-00", "2024-00-01", "2024-13-01", "2024-01-00", "2024-01-32", "2023-02-29", "1900-02-29", "2024-02-30", "2024-04-31", "9999-99-99", "0000-02-29"} {
		want(t, "Parse of "+s, tell(day.Parse(s)), api.ErrDate.Error())
	}
}

// R3, 7.10: texts that are too long, and such that are just not.
func TestParseOfLongTexts(t *testing.T) {
	for _, s := range []string{strings.Repeat("0", api.MaxText+1), "2024-02-29" + strings.Repeat(" ", api.MaxText), strings.Repeat("x", 2*api.MaxText)} {
		want(t, "Parse of a text that is too long", tell(day.Parse(s)), api.ErrLong.Error())
	}
	for _, s := range []string{strings.Repeat("0", api.MaxText), "2024-02-29" + strings.Repeat(" ", api.MaxText-10)} {
		want(t, "Parse of a long text", tell(day.Parse(s)), api.ErrForm.Error())
	}
}
