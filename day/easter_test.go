package day_test

import (
	"fmt"
	"math"
	"testing"

	"tontine/api"
	"tontine/day"
)

// easterOf is Easter by the golden number, the century and the epact: the Sunday behind the calendar's full moon.
func easterOf(year int) api.Date {
	golden, century := year%19+1, year/100+1
	dropped := 3*century/4 - 12
	moved := (8*century+5)/25 - 5
	sunday := 5*year/4 - dropped - 10
	epact := ((11*golden+20+moved-dropped)%30 + 30) % 30
	if epact == 25 && golden > 11 || epact == 24 {
		epact++
	}
	full := 44 - epact // of March
	if full < 21 {
		full += 30
	}
	d := full + 7 - ((sunday+full)%7+7)%7
	if d > 31 {
		return api.Date{Year: year, Month: 4, Day: d - 31}
	}
	return api.Date{Year: year, Month: 3, Day: d}
}

// 7.2, 7.8, 7.15: Easter of every year, by another rule; a Sunday from March 22 to April 25.
func TestEaster(t *testing.T) {
	for year := 1; year <= 9999; year++ {
		d, e := day.Easter(year)
		want(t, fmt.Sprint("Easter ", year), tell(d, e), text(easterOf(year)))
		want(t, fmt.Sprint("the weekday of Easter ", year), tellInt(day.Weekday(d)), "7")
		early, late := api.Date{Year: year, Month: 3, Day: 22}, api.Date{Year: year, Month: 4, Day: 25}
		if isBehind(early, d) || isBehind(d, late) {
			t.Errorf("Easter %d: %s", year, text(d))
		}
	}
}

// 7.8, 7.15: years that are known, with the earliest and the latest days; years that there are none of.
func TestEasterOneByOne(t *testing.T) {
	for _, s := range []string{"1761-03-22", "1818-03-22", "2285-03-22", "1886-04-25", "1943-04-25", "2038-04-25", "1954-04-18", "1981-04-19", "2000-04-23", "2008-03-23", "2011-04-24", "2024-03-31", "2025-04-20", "2049-04-18", "2076-04-19"} {
		want(t, "Easter", tell(day.Easter(on(s).Year)), s)
	}
	for _, year := range []int{0, -1, -19, 10000, 10001, math.MaxInt, math.MinInt} {
		want(t, fmt.Sprint("Easter ", year), tell(day.Easter(year)), api.ErrRange.Error())
	}
}
