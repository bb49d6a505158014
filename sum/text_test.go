package sum_test

import (
	"fmt"
	"math/big"
	"strings"
	"testing"

	"tontine/api"
	"tontine/sum"
)

// 4.3: each of the four fields wrong by itself, with all others right, and At of it.
func TestFieldsWrongByThemselves(t *testing.T) {
	right := []string{"1", "---ab", "3", "2"}
	long := strings.Repeat("9", 60000)
	for at, texts := range [][]string{
		{"-1", "+1", "01", "00", "-0", "x", "-", "1.0", "1e3", "0x1", "1_0", "1099511627777", "9223372036854775807", "9223372036854775808", "18446744073709551617", "-9223372036854775809", long, "1\t", "\n1", "\uff11", "1\x00"},
		{"-", "----", "------", "---abb", "n", "npma", "npmabn", "N--ab", "--nab", "-n-ab", "p--ab", "---ba", "bampn", "---aB", "+--ab", "___ab", "---a\n", "\u2014ab", "---a\xff", "00011", long},
		{"-0", "+3", "03", "-03", "00", "--3", "-", "3.0", "3/1", "3e1", "0x3", "x", "1_1", "3\t", "\uff13", long + "x", "0" + long},
		{"0", "-1", "-2", "+2", "02", "01", "00", "-0", "3", "6", "5", "10", "12", "x", "-", "2.0", "2^4", "0x2", "2\r", two(2149).String(), two(4296).String(), plus(two(2148), 1).String(), plus(two(2148), -1).String(), times(two(2147), 3).String(), "1" + long, long},
	} {
		for _, s := range texts {
			fields := append([]string{}, right...)
			fields[at] = s
			text := strings.Join(fields, " ")
			want(t, "Read of "+text, tellRead(sum.Read(text)), fault(at, api.ErrForm))
		}
	}
	for _, num := range []string{"0", "2", "-2", "1234567890", "-" + two(2000).String()} { // no lowest terms
		for _, den := range []string{"2", "4", two(2148).String()} {
			text := "9 ---ab " + num + " " + den
			want(t, "Read of "+text, tellRead(sum.Read(text)), fault(3, api.ErrForm))
		}
	}
	want(t, "nought by 2, of no terms", tellRead(sum.Read("0 ----- 0 2")), fault(3, api.ErrForm))
	want(t, "the right one", tellRead(sum.Read(strings.Join(right, " "))), "1 ---ab 3 2")
}

// 4.3: of several fields that are wrong the first one is told, ahead of what is wrong with all of them together, and behind what is wrong with how many there are.
func TestWhichFaultIsFirst(t *testing.T) {
	for s, at := range map[string]int{
		"x y z w": 0, "x ---ab 3 2": 0, "x ---ab 3 w": 0, "x y 3 2": 0, "1 y z w": 1, "1 y 3 2": 1, "1 y 3 w": 1, "1 ---ab z w": 2, "1 ---ab -0 3": 2, "1 ---ab 3 3": 3,
		"0 ---ab 1 3": 3, "0 ---ab x 1": 2, "0 npm-- 00 1": 2, "0 npm 1 1": 1, "1 ---a- 1 0": 3, "1 ----- 4 2": 3, "1099511627777 ----- 1 1": 0,
		"x y z": 4, "x y z w v": 4, "1  y z w": 4, "01 ---ab 1 2 ": 4, " x": 4,
		"1 ---ab " + strings.Repeat("9", 5000) + " 3": 3, "1 ---ab " + strings.Repeat("8", 5000) + " 2": 3,
	} {
		want(t, "Read of "+s, tellRead(sum.Read(s)), fault(at, api.ErrForm))
	}
}

// 4.3: where there are not just four fields, each of one byte or more, with one space between each two.
func TestNotFourFields(t *testing.T) {
	for _, s := range []string{
		"", " ", "  ", "   ", "    ", "0", "0 -----", "0 ----- 0", "0 ----- 0 ", " ----- 0 1", "0  0 1", "0 -----  1", "0 ----- 0 1 ", " 0 ----- 0 1", "0 ----- 0 1 1", "0 ----- 0 1  ",
		"0  ----- 0 1", "0 -----  0 1", "0 ----- 0  1", "0\t-----\t0\t1", "0 -----\t0 1", "0\u00a0----- 0 1", "0 ----- 0\n1", "0----- 0 1", "0 ----- 0 1 x y", strings.Repeat(" ", api.MaxText), strings.Repeat("1 ", 100), strings.Repeat("1", api.MaxText),
	} {
		want(t, fmt.Sprintf("Read of %q", short(s)), tellRead(sum.Read(s)), fault(4, api.ErrForm))
	}
}

// 4.3: a text that is too long, whatever it is; one that is just as long as may be is looked at.
func TestLongTexts(t *testing.T) {
	for _, c := range []string{" ", "x", "1", "0 ", "9"} {
		want(t, "too long", tellRead(sum.Read(strings.Repeat(c, api.MaxText)+"1")), fault(0, api.ErrLong))
	}
	begin, end := "1 ---ab ", " 1"
	want(t, "too long", tellRead(sum.Read(begin+strings.Repeat("9", api.MaxText-len(begin)-len(end)+1)+end)), fault(0, api.ErrLong))
	want(t, "long", tellRead(sum.Read(begin+strings.Repeat("9", api.MaxText-len(begin)-len(end))+end)), fault(5, api.ErrForm))
	want(t, "long, below nought", tellRead(sum.Read(begin+"-"+strings.Repeat("9", api.MaxText-len(begin)-len(end)-1)+end)), fault(5, api.ErrForm))
}

// allMarks are the 32 fields of marks.
func allMarks() []string {
	l := []string{""}
	for _, c := range []string{"n", "p", "m", "a", "b"} {
		var longer []string
		for _, s := range l {
			longer = append(longer, s+c, s+"-")
		}
		l = longer
	}
	return l
}

// isSum is the Words' rule of all fields together; of a number within what so many terms can come to.
func isSum(count, marks, num string) bool {
	a, b := strings.Contains(marks, "a"), strings.Contains(marks, "b")
	if count == "0" {
		return marks == "-----" && num == "0"
	}
	return (a || b) && (a && b || num == "0" && !strings.ContainsAny(marks, "npm"))
}

// 4.3, 4.8: marks of all kinds with counts and numbers of all kinds: what is a sum's is read as it says, all else is refused by At 5.
func TestMarksWithNumbers(t *testing.T) {
	small := two(2148).String()
	for _, marks := range allMarks() {
		for _, count := range []string{"0", "1", "2", "7", "1099511627776"} {
			for _, number := range []string{"0 1", "1 1", "-1 1", "3 2", "-3 2", "1 " + small, "-1 " + small, two(2048).String() + " 1", "-" + two(2048).String() + " 1"} {
				num, _, _ := strings.Cut(number, " ")
				text := count + " " + marks + " " + number
				wanted := fault(5, api.ErrForm)
				if isSum(count, marks, num) {
					wanted = text
				}
				want(t, "Read of "+text, tellRead(sum.Read(text)), wanted)
			}
		}
	}
	for _, text := range []string{"0 ----- 1 1", "0 ---ab 0 1", "0 n---- 0 1", "1 ----- 0 1", "1 n---- 0 1", "1 n--a- 0 1", "1 -p--b 0 1", "1 --m-- 0 1", "1 ---a- 1 1", "1 ----b -1 2", "1 ----- 1 1"} {
		want(t, "Read of "+text, tellRead(sum.Read(text)), fault(5, api.ErrForm))
	}
	for _, text := range []string{"0 ----- 0 1", "1 ---a- 0 1", "1 ----b 0 1", "1 ---ab 0 1", "1 npmab -3 4", "1 n--ab 0 1", "2 -pmab 1 1"} {
		want(t, "Read of "+text, tellRead(sum.Read(text)), text)
	}
}

// 4.3: the number at the bound that the count of terms sets, and just beyond it.
func TestNumbersAtTheBound(t *testing.T) {
	for _, count := range []int64{0, 1, 2, 3, 1000003, 1<<40 - 1, 1 << 40} {
		most := times(two(2048), count)
		units := new(big.Int).Lsh(most, 2148)
		marks := "---ab"
		if count == 0 {
			marks = "-----"
		}
		for _, sign := range []int64{1, -1} {
			at := fmt.Sprint(count, " ", marks, " ", times(most, sign), " 1")
			want(t, "Read of "+at, tellRead(sum.Read(at)), at)
			for _, text := range []string{
				fmt.Sprint(count, " ", marks, " ", times(plus(most, 1), sign), " 1"),
				fmt.Sprint(count, " ", marks, " ", times(plus(units, 1), sign), " ", two(2148)),
				fmt.Sprint(count, " ", marks, " ", times(plus(times(most, 4), 1), sign), " 4"),
				fmt.Sprint(count, " ", marks, " ", times(two(2089), sign), " 1"),
				fmt.Sprint(count, " ", marks, " ", times(two(4288), sign), " 1"),
				fmt.Sprint(count, " ", marks, " ", times(two(13500), sign), " 1"),
				fmt.Sprint(count, " ", marks, " ", times(two(14000), sign), " 1"),
			} {
				want(t, "Read of "+text, tellRead(sum.Read(text)), fault(5, api.ErrForm))
			}
			if count > 0 {
				below := fmt.Sprint(count, " ", marks, " ", times(plus(units, -1), sign), " ", two(2148))
				want(t, "Read of "+below, tellRead(sum.Read(below)), below)
			}
		}
	}
}

// 4.3: the greatest sums that there are, merged, hold their number.
func TestGreatestSums(t *testing.T) {
	half := "549755813888 ---ab %s" + two(2087).String() + " 1"
	for _, sign := range []string{"", "-"} {
		a := mustRead(t, fmt.Sprintf(half, sign))
		if e := a.Merge(a); e != api.OK {
			t.Fatal(e)
		}
		want(t, "the greatest one", a.Text(), "1099511627776 ---ab "+sign+two(2088).String()+" 1")
		want(t, "the greatest one", tellRatio(a.Value()), sign+two(2088).String()+"/1")
		wanted := map[string][]float64{"": {greatest, inf}, "-": {-inf, -greatest}}[sign]
		want(t, "the greatest one, floor", tell(a.Round(api.RoundFloor)), told(wanted[0]))
		want(t, "the greatest one, ceil", tell(a.Round(api.RoundCeil)), told(wanted[1]))
	}
	up, down := mustRead(t, fmt.Sprintf(half, "")), mustRead(t, fmt.Sprintf(half, "-"))
	if e := up.Merge(down); e != api.OK {
		t.Fatal(e)
	}
	want(t, "both", up.Text(), "1099511627776 ---ab 0 1")
}

// 4.3: what is read is what the text says, and a text of a sum is just so: by the model of these tests.
func TestTextsOfSums(t *testing.T) {
	for s, k := range map[string]known{
		"1 ---ab 3 2":           {1, "---ab", new(big.Int).Lsh(big.NewInt(3), unit-1)},
		"12 ---ab -7 1":         {12, "---ab", new(big.Int).Lsh(big.NewInt(-7), unit)},
		"0 ----- 0 1":           {0, "-----", new(big.Int)},
		"5 ---a- 0 1":           {5, "---a-", new(big.Int)},
		"5 ----b 0 1":           {5, "----b", new(big.Int)},
		"1 ---ab 0 1":           {1, "---ab", new(big.Int)},
		"1 npmab 0 1":           {1, "npmab", new(big.Int)},
		"3 -p-ab 5 1":           {3, "-p-ab", new(big.Int).Lsh(big.NewInt(5), unit)},
		"3 --mab 5 1":           {3, "--mab", new(big.Int).Lsh(big.NewInt(5), unit)},
		"1 ---ab 1 " + d(2148):  {1, "---ab", big.NewInt(1)},
		"1 ---ab -1 " + d(2148): {1, "---ab", big.NewInt(-1)},
	} {
		check(t, s, mustRead(t, s), k)
	}
}

func d(n int) string { return two(n).String() }

// 4.8: Read of Text answers as the first one, to all calls, from then on; and neither changes with the other.
func TestReadOfText(t *testing.T) {
	r := random(4)
	for i := range 300 {
		parts := anyParts(r, r.Intn(20), i%4)
		a := put(t, sum.New(), parts...)
		b := mustRead(t, a.Text())
		check(t, fmt.Sprint("read of ", parts), b, know(parts))
		more := anyParts(r, 1+r.Intn(5), i%3)
		all := append(append([]part{}, parts...), more...)
		put(t, b, more...)
		check(t, fmt.Sprint("read of ", parts, " and ", more), b, know(all))
		check(t, "the first one", a, know(parts))
		if e := a.Merge(b); e != api.OK {
			t.Fatal(e)
		}
		check(t, "both", a, know(append(append([]part{}, parts...), all...)))
		want(t, "once more", tellRead(sum.Read(b.Text())), b.Text())
	}
}
