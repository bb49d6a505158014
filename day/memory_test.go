package day_test

import (
	"fmt"
	"math"
	"slices"
	"strings"
	"testing"
	"unsafe"

	"tontine/api"
	"tontine/day"
)

// R4: what is handed in stays as it is, spare room too, in its order; R7: the same call tells the same, whatever the capacity.
func TestListsStay(t *testing.T) {
	for _, texts := range []string{"2024-04-02 2024-03-29 2024-04-01", "2024-04-01 2024-03-29 2023-02-29 2020-01-01", ""} {
		for _, how := range append(noWays, moves...) {
			l := list(texts)
			room := append(slices.Clone(l), days(on("2024-03-01"), 5)...)
			was := slices.Clone(room)
			first := tell(day.Work(on("2024-03-30"), room[:len(l)], how))
			if !slices.Equal(room, was) {
				t.Errorf("Work changed its list %s: %s", texts, tellList(room, api.OK))
			}
			want(t, "Work with another list", tell(day.Work(on("2024-03-30"), slices.Clip(l), how)), first)
		}
	}
}

// R3: none may be nil or empty.
func TestNoneIsNone(t *testing.T) {
	for _, d := range list("2024-03-30 2024-04-01 9999-12-31") {
		for _, how := range append(noWays, moves...) {
			want(t, "Work", tell(day.Work(d, []api.Date{}, how)), tell(day.Work(d, nil, how)))
		}
	}
}

// R4: an answer is its caller's own, spare room too.
func TestAnswersAreNewMemory(t *testing.T) {
	first, _ := day.Dues(on("2024-01-31"), 1, 5)
	second, e := day.Dues(on("2024-01-31"), 1, 5)
	wanted := tellList(second, e)
	first = first[:cap(first)]
	for i := range first {
		first[i] = api.Date{}
	}
	want(t, "Dues beside another answer", tellList(second, e), wanted)
	want(t, "Dues once more", tellList(day.Dues(on("2024-01-31"), 1, 5)), wanted)
	a, _ := day.Text(on("2024-01-31"))
	b, _ := day.Text(on("2024-01-31"))
	if unsafe.StringData(a) == unsafe.StringData(b) {
		t.Error("two texts are one")
	}
}

// P1: no call panics, and each ends, whatever it is given; R5: what is beside an error is nothing; R7: the same call tells the same.
func TestNoCallPanics(t *testing.T) {
	numbers := []int{0, 1, -1, 2, 3, 4, 5, 12, 13, 366, 1200, 1201, api.MaxItems, api.MaxItems + 1, api.MaxYear, api.MaxYear + 1, last, last + 1, -last, math.MaxInt, math.MinInt, math.MaxInt - 1, math.MinInt + 1}
	check := func(what string, call func() string) {
		t.Helper()
		first := call()
		want(t, what+" twice", call(), first)
		if strings.Contains(first, "beside") {
			t.Errorf("%s: %s", what, first)
		}
	}
	dates := append(wrong(), list("0001-01-01 0001-01-31 2023-12-31 2024-02-29 2024-03-30 9999-12-01 9999-12-31")...)
	for _, a := range dates {
		for name, call := range dateCalls() {
			for _, b := range dates {
				check(name, func() string { return call(a, b) })
			}
		}
		for _, n := range numbers {
			check("Days", func() string { return tell(day.Days(a, n)) })
			check("Months", func() string { return tell(day.Months(a, n)) })
			for _, m := range numbers {
				check("Dues", func() string { return tellList(day.Dues(a, n, m)) })
			}
			check("Age", func() string { return tellInt(day.Age(a, on("9999-12-31"), n)) })
			check("Part", func() string { return tellRatio(day.Part(a, on("9999-12-31"), n)) })
			check("Work", func() string { return tell(day.Work(a, dates, n)) })
			check("Work", func() string { return tell(day.Work(a, []api.Date{a, on("9999-12-31")}, n)) })
		}
	}
	for _, n := range numbers {
		check("Leap", func() string { return tellBool(day.Leap(n)) })
		check("FromNumber", func() string { return tell(day.FromNumber(n)) })
		check("Easter", func() string { return tell(day.Easter(n)) })
		for _, m := range numbers {
			check("Length", func() string { return tellInt(day.Length(n, m)) })
		}
	}
	r := random(89)
	for range 20000 {
		s := []byte("2024-02-29")
		for range r.Intn(4) {
			s[r.Intn(len(s))] = byte(r.Intn(256))
		}
		cut := string(s[:len(s)-r.Intn(2)*r.Intn(len(s))])
		check(fmt.Sprintf("Parse %q", cut), func() string { return tell(day.Parse(cut)) })
	}
}
