package day

import (
	"slices"

	"tontine/api"
)

const saturday = 6

// Work is the working day that d is moved to (7.9).
func Work(d api.Date, free []api.Date, how int) (api.Date, api.Errno) {
	from, e := Number(d)
	if e != api.OK {
		return api.Date{}, e
	}
	closed, e := freeNumbers(free)
	if e != api.OK {
		return api.Date{}, e
	}
	switch how {
	case api.MoveOn:
		return FromNumber(workFrom(from, 1, closed))
	case api.MoveIn:
		on, e := FromNumber(workFrom(from, 1, closed))
		if e == api.OK && monthsAhead(on) == monthsAhead(d) {
			return on, api.OK
		}
		fallthrough
	case api.MoveBack:
		return FromNumber(workFrom(from, -1, closed))
	}
	return api.Date{}, api.ErrRange
}

// freeNumbers is the numbers of the free days, sorted; or ErrLong, if they are too many; or ErrDate, if one is not right.
func freeNumbers(free []api.Date) ([]int, api.Errno) {
	if len(free) > api.MaxItems {
		return nil, api.ErrLong
	}
	numbers := make([]int, len(free))
	for i, d := range free {
		n, e := Number(d)
		if e != api.OK {
			return nil, e
		}
		numbers[i] = n
	}
	slices.Sort(numbers)
	return numbers, api.OK
}

// workFrom is the number of the first working day from n on, by steps of 1 or -1; if there is none, the first number beyond the calendar, which has no date.
func workFrom(n, step int, closed []int) int {
	for isNumber(n) && !isWork(n, closed) {
		n += step
	}
	return n
}

func isWork(n int, closed []int) bool {
	_, free := slices.BinarySearch(closed, n)
	return weekdayOf(n) < saturday && !free
}
