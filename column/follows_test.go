package column_test

import (
	"fmt"
	"math"
	"math/big"
	"testing"

	"tontine/api"
	"tontine/column"
)

// numbersAt is the line n that Exact answers, as numbers.
func numbersAt(t *testing.T, b api.Basis, l api.Life, n int) map[string]*big.Rat {
	t.Helper()
	x, e := column.Exact(b, l, n)
	if e != api.OK {
		t.Fatal(e)
	}
	numbers := map[string]*big.Rat{}
	for i, r := range ratiosOf(x) {
		y, ok := new(big.Rat).SetString(r.Num + "/" + r.Den)
		if !ok {
			t.Fatal("no exact number:", r)
		}
		numbers[line[i]] = y
	}
	return numbers
}

// 12.3: M = D - d N, R = N - d S, N = D + N of the next line, as the other sums; D falls.
func TestLinesHangTogether(t *testing.T) {
	check := func(what string, b api.Basis, l api.Life, n int) {
		now, next := numbersAt(t, b, l, n), numbersAt(t, b, l, n+1)
		d := minus(whole(1), discount(b))
		what = fmt.Sprint(what, " in ", n)
		want(t, "M of "+what, now["M"].String(), minus(now["D"], times(d, now["N"])).String())
		want(t, "R of "+what, now["R"].String(), minus(now["N"], times(d, now["S"])).String())
		for _, of := range []string{"ND", "SN", "MC", "RM"} {
			sum, column := of[:1], of[1:]
			want(t, sum+" of "+what, now[sum].String(), plus(now[column], next[sum]).String())
		}
		if next["D"].Cmp(now["D"]) > 0 {
			t.Errorf("%s: D rises", what)
		}
	}
	eachLife(func(what string, b api.Basis, l api.Life) {
		for _, n := range []int{0, 1, len(ratesOf(b.Table, l)) - 1, len(ratesOf(b.Table, l)), longest - 1} {
			check(what, b, l, n)
		}
	})
	eachLong(func(what string, b api.Basis, l api.Life) {
		for _, n := range []int{0, 17, 64, longest - 1} {
			check(what, b, l, n)
		}
	})
}

// isMiddling tells whether all numbers of some columns are noughts, or from 2^-800 to 2^800.
func isMiddling(six map[string][]float64) bool {
	for _, column := range six {
		for _, x := range column {
			if x != 0 && (x < 0x1p-800 || x > 0x1p800) {
				return false
			}
		}
	}
	return true
}

// 12.5: by a radix that is a power of two all columns are that many times those of the radix 1.
func TestRadixesOfTwo(t *testing.T) {
	looked := map[int]int{}
	check := func(what string, b api.Basis, l api.Life) {
		one, e := column.Floats(b, l, 1)
		if e != api.OK {
			t.Fatal(e)
		}
		for _, power := range []int{-700, -300, -1, 1, 10, 300, 780} {
			radix := math.Ldexp(1, power)
			wanted := map[string][]float64{}
			for name, column := range floatsOf(one) {
				for _, x := range column {
					wanted[name] = append(wanted[name], math.Ldexp(x, power))
				}
			}
			if !isMiddling(floatsOf(one)) || !isMiddling(wanted) {
				continue
			}
			looked[power]++
			want(t, fmt.Sprint("Floats of ", what, ", 2^", power), tellColumns(column.Floats(b, l, radix)), tellSix(wanted, api.OK, tellFloat))
		}
	}
	eachLife(check)
	eachLong(check)
	for _, power := range []int{-700, -300, -1, 1, 10, 300, 780} {
		if looked[power] == 0 {
			t.Error("no columns of the radix 2 to the", power)
		}
	}
}
