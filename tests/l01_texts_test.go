package tests

import (
	"fmt"
	"math"
	"strconv"
	"strings"
	"testing"

	"loop.example/g01308/impl"
)

func manyTexts(item string, n int) string {
	return strings.Join(repeated(item, n), ",")
}

func TestNumbersText(t *testing.T) {
	for _, c := range []struct {
		what string
		list []float32
		want string
		ok   bool
	}{
		{"nil", nil, "none", true},
		{"empty", []float32{}, "none", true},
		{"two", []float32{1, -2}, "3f800000,c0000000", true},
		{"zeros", []float32{0, num(minusZero)}, "00000000,80000000", true},
		{"limits", []float32{num(tiniest), num(greatest), num(infBits)}, "00000001,7f7fffff,7f800000", true},
		{"not-a-numbers", []float32{num(0x7f800001), num(0xffffffff)}, "7fc00000,7fc00000", true},
		{"at most", ones(256), manyTexts("3f800000", 256), true},
		{"too many", ones(257), "", false},
	} {
		wantText(t, "NumbersText "+c.what, c.want, c.ok)(impl.NumbersText(c.list))
	}
}

func TestComplexText(t *testing.T) {
	for _, c := range []struct {
		what string
		list []complex64
		want string
		ok   bool
	}{
		{"nil", nil, "none", true},
		{"one", []complex64{1}, "3f80000000000000", true},
		{"two", []complex64{1, complex(0, -2)}, "3f80000000000000,00000000c0000000", true},
		{"odd ones", []complex64{complex(num(minusZero), num(0xff800001))}, "800000007fc00000", true},
		{"at most", complexOnes(256), manyTexts("3f800000bf800000", 256), true},
		{"too many", complexOnes(257), "", false},
	} {
		wantText(t, "ComplexText "+c.what, c.want, c.ok)(impl.ComplexText(c.list))
	}
}

func TestReadNumbers(t *testing.T) {
	for _, c := range []struct {
		s    string
		want []float32
	}{
		{"none", nil},
		{"3f800000", []float32{1}},
		{"3f800000,c0000000", []float32{1, -2}},
		{"80000000,00000001,7f800000,ff800000,7fc00000", []float32{num(minusZero), num(tiniest), num(infBits), num(minusInfBits), num(nanBits)}},
		{manyTexts("3f800000", 256), ones(256)},
	} {
		got, ok := impl.ReadNumbers(c.s)
		wantBool(t, fmt.Sprintf("ReadNumbers %.40q succeeds", c.s), ok, true)
		if len(got) != len(c.want) {
			t.Fatalf("ReadNumbers %.40q: got %d numbers", c.s, len(got))
		}
		for i := range got {
			wantNumber(t, fmt.Sprintf("ReadNumbers %.40q", c.s), got[i], c.want[i])
		}
	}
}

func TestReadComplex(t *testing.T) {
	for _, c := range []struct {
		s    string
		want []complex64
	}{
		{"none", nil},
		{"3f80000000000000", []complex64{1}},
		{"3f80000000000000,00000000c0000000", []complex64{1, complex(0, -2)}},
		{"7fc0000080000000", []complex64{complex(num(nanBits), num(minusZero))}},
		{manyTexts("3f800000bf800000", 256), complexOnes(256)},
	} {
		got, ok := impl.ReadComplex(c.s)
		wantBool(t, fmt.Sprintf("ReadComplex %.40q succeeds", c.s), ok, true)
		if len(got) != len(c.want) {
			t.Fatalf("ReadComplex %.40q: got %d numbers", c.s, len(got))
		}
		for i := range got {
			wantComplex(t, fmt.Sprintf("ReadComplex %.40q", c.s), got[i], c.want[i])
		}
	}
}

// badDigits are texts in place of eight digits that no number has.
func badDigits() []string {
	return []string{
		"", " ", "3f80000", "3f8000000", "3F800000", "3f80000g", "3f80000/", "3f80000:", "3f80000`", "0x3f8000", "+f800000", "-f800000", "3f80_000", " 3f80000", "3f80000 ",
		"3f80000\n", "3f8000\u00e9", "\uff13f80000", "3f80000\xff", "\x003f8000", "nonenone",
		// Only 7fc00000 is the text of a not-a-number.
		"7f800001", "7fc00001", "7fffffff", "ffc00000", "ff800001", "ffffffff",
	}
}

func TestReadersOfNumbersFail(t *testing.T) {
	texts := []string{"None", "NONE", "none,", ",none", "none,3f800000", "nil", ",", "3f800000,", ",3f800000", "3f800000,,3f800000", "3f800000, 3f800000", "3f800000;3f800000", manyTexts("3f800000", 257), manyTexts("none", 2)}
	for _, s := range badDigits() {
		texts = append(texts, s, s+",3f800000", "3f800000,"+s)
	}
	for _, s := range texts {
		list, ok := impl.ReadNumbers(s)
		if ok || len(list) != 0 {
			t.Errorf("ReadNumbers %.40q: got %v, %v", s, list, ok)
		}
	}
}

func TestReadersOfComplexNumbersFail(t *testing.T) {
	good := "3f80000000000000"
	texts := []string{"", "None", "none,", "3f800000", "3f800000,00000000", good + "0", good + ",", "," + good, good + ",," + good, manyTexts(good, 257), good + good}
	for _, s := range badDigits() {
		texts = append(texts, s+"3f800000", "3f800000"+s, s+s, good+","+s+"00000000")
	}
	for _, s := range texts {
		list, ok := impl.ReadComplex(s)
		if ok || len(list) != 0 {
			t.Errorf("ReadComplex %.40q: got %v, %v", s, list, ok)
		}
	}
}

func TestNumbersAreReadBack(t *testing.T) {
	numbers := oddNumbers()
	text, ok := impl.NumbersText(numbers)
	back, too := impl.ReadNumbers(text)
	if !ok || !too || len(back) != len(numbers) {
		t.Fatalf("NumbersText: %v, ReadNumbers: %v, %d numbers", ok, too, len(back))
	}
	for i := range back {
		wantNumber(t, "a number that is read back", back[i], numbers[i])
	}
	for _, x := range oddComplex() {
		text, ok := impl.ComplexText([]complex64{x})
		back, too := impl.ReadComplex(text)
		if !ok || !too || len(back) != 1 || !sameComplex(back[0], x) {
			t.Fatalf("ReadComplex of the text %q of %v: got %v, %v", text, x, back, too)
		}
	}
}

func TestIsName(t *testing.T) {
	for _, s := range []string{"a", "z", "ring", "abcdefgh", "zzzzzzzz", "none"} {
		wantBool(t, fmt.Sprintf("IsName %q", s), impl.IsName(s), true)
	}
	for _, s := range []string{"", "abcdefghi", "A", "aB", "a1", "1", " ", "a ", " a", "a-b", "`", "{", "\x00", "a\x00", "é", "aé", "\xff", "a\xff", "\n", strings.Repeat("a", 1000)} {
		wantBool(t, fmt.Sprintf("IsName %.20q", s), impl.IsName(s), false)
	}
}

func TestDecimal(t *testing.T) {
	for n, want := range map[int64]string{
		0: "0", 7: "7", -4: "-4", 10: "10", -100: "-100", impl.MaxValue: "1000000000000000", -impl.MaxValue - 1: "-1000000000000001",
		math.MaxInt64: "9223372036854775807", math.MinInt64: "-9223372036854775808",
	} {
		if got := impl.Decimal(n); got != want {
			t.Errorf("Decimal %d: got %q", n, got)
		}
	}
}

func TestReadDecimal(t *testing.T) {
	for _, n := range []int64{0, 1, -1, 9, 10, -10, 4294967296, impl.MaxValue - 1, impl.MaxValue, -impl.MaxValue} {
		s := strconv.FormatInt(n, 10)
		wantInteger(t, "ReadDecimal "+s, n, true)(impl.ReadDecimal(s))
	}
	for _, s := range []string{
		"", "-", "+", "+1", "-0", "00", "01", "-01", "--1", " 1", "1 ", "1\n", "1.0", "1e3", "0x1", "1_000", "a", "none", "\uff11", "1\xff", "\x00",
		"1000000000000001", "-1000000000000001", "9223372036854775807", "9223372036854775808", "18446744073709551617", strings.Repeat("9", 500),
	} {
		wantInteger(t, fmt.Sprintf("ReadDecimal %.30q", s), 0, false)(impl.ReadDecimal(s))
	}
}

func TestListText(t *testing.T) {
	const most = impl.MaxValue
	for _, c := range []struct {
		what string
		list []int64
		want string
		ok   bool
	}{
		{"nil", nil, "none", true},
		{"empty", []int64{}, "none", true},
		{"one", []int64{0}, "0", true},
		{"three", []int64{1, -2, 30}, "1,-2,30", true},
		{"limits", []int64{most, -most}, "1000000000000000,-1000000000000000", true},
		{"too great", []int64{1, most + 1}, "", false},
		{"too small", []int64{-most - 1, 1}, "", false},
		{"far too great", []int64{math.MaxInt64, math.MinInt64}, "", false},
		{"at most", repeated(int64(7), 64), manyTexts("7", 64), true},
		{"too many", repeated(int64(7), 65), "", false},
	} {
		wantText(t, "ListText "+c.what, c.want, c.ok)(impl.ListText(c.list))
	}
}

func TestReadList(t *testing.T) {
	for s, want := range map[string][]int64{
		"none": nil, "0": {0}, "1,-2,30": {1, -2, 30}, "1000000000000000,-1000000000000000": {impl.MaxValue, -impl.MaxValue},
		manyTexts("7", 64): repeated(int64(7), 64),
	} {
		got, ok := impl.ReadList(s)
		if !ok || fmt.Sprint(got) != fmt.Sprint(want) {
			t.Errorf("ReadList %.40q: got %v, %v", s, got, ok)
		}
	}
	for _, s := range []string{
		"", ",", "1,", ",1", "1,,2", "1, 2", "1 ,2", "+1", "01", "-0", "1,none", "none,none", "None", "1;2", "1,a", "1\n", "1,\xff",
		"1000000000000001", "1,-1000000000000001", manyTexts("7", 65), strings.Repeat(",", 5000),
	} {
		got, ok := impl.ReadList(s)
		if ok || len(got) != 0 {
			t.Errorf("ReadList %.40q: got %v, %v", s, got, ok)
		}
	}
}

func TestCheckOf(t *testing.T) {
	for _, c := range []struct {
		start int64
		s     string
		want  int64
	}{
		{0, "", 0}, {65002, "", 65002}, {0, "a", 234}, {0, "\x00", 137}, {0, "\xff", 392},
		{1, "a", 1073}, {65002, "\x00", 64301}, {0, "ab", (839*234 + 98 + 137) % 65003}, {0, "é", (839*(0xc3+137) + 0xa9 + 137) % 65003},
	} {
		wantInteger(t, fmt.Sprintf("CheckOf %d %q", c.start, c.s), c.want, true)(impl.CheckOf(c.start, c.s))
	}
	for _, start := range []int64{-1, 65003, math.MinInt64, math.MaxInt64} {
		wantInteger(t, fmt.Sprintf("CheckOf %d", start), 0, false)(impl.CheckOf(start, "a"))
		wantInteger(t, fmt.Sprintf("CheckOf %d of no bytes", start), 0, false)(impl.CheckOf(start, ""))
	}
}

func TestCheckOfGoesOn(t *testing.T) {
	text := strings.Repeat("any bytes \x00\xff\n", 50)
	whole, _ := impl.CheckOf(17, text)
	for i := range len(text) {
		half, _ := impl.CheckOf(17, text[:i])
		wantInteger(t, fmt.Sprintf("CheckOf from the byte %d on", i), whole, true)(impl.CheckOf(half, text[i:]))
	}
}

func TestLimitsOfNumbers(t *testing.T) {
	if impl.MaxNumbers != 256 || impl.MaxValue != 1000000000000000 || impl.MaxItems != 64 || impl.CheckSize != 65003 {
		t.Error("a limit is not as the document says")
	}
}
