package day_test

import (
	"testing"

	"tontine/api"
	"tontine/day"
)

// The chapter's Examples 1 to 4.

func TestExample1(t *testing.T) {
	want(t, "Number", tellInt(day.Number(on("1970-01-01"))), "719163")
	want(t, "Number", tellInt(day.Number(on("9999-12-31"))), "3652059")
	want(t, "Weekday", tellInt(day.Weekday(on("2024-02-29"))), "4")
	want(t, "Months", tell(day.Months(on("2024-01-31"), 1)), "2024-02-29")
	want(t, "Months", tell(day.Months(on("2024-03-31"), -13)), "2023-02-28")
	want(t, "Dues", tellList(day.Dues(on("2024-01-31"), 1, 3)), "2024-01-31 2024-02-29 2024-03-31")
}

func TestExample2(t *testing.T) {
	birth := on("2000-02-29")
	want(t, "Age", tellInt(day.Age(birth, on("2023-02-28"), api.AgeLast)), "23")
	want(t, "Age", tellInt(day.Age(birth, on("2023-02-27"), api.AgeLast)), "22")
	want(t, "Age", tellInt(day.Age(birth, on("2023-02-27"), api.AgeNext)), "23")
	want(t, "Age", tellInt(day.Age(birth, on("2023-02-27"), api.AgeNear)), "23")
	want(t, "Between", tellThree(day.Between(on("2000-01-31"), on("2000-03-01"))), "0 1 1")
}

func TestExample3(t *testing.T) {
	want(t, "Part", tellRatio(day.Part(on("2023-12-31"), on("2024-01-02"), api.CountYears)), "731/133590") // 1/365 + 1/366
	want(t, "Part", tellRatio(day.Part(on("2024-01-31"), on("2024-03-01"), api.CountThird)), "31/360")
	want(t, "Easter", tell(day.Easter(2024)), "2024-03-31")
	want(t, "Easter", tell(day.Easter(2000)), "2000-04-23")
}

func TestExample4(t *testing.T) {
	want(t, "Work", tell(day.Work(on("2024-03-30"), nil, api.MoveOn)), "2024-04-01")
	want(t, "Work", tell(day.Work(on("2024-03-30"), nil, api.MoveIn)), "2024-03-29")
}
