package tests

import (
	"math"
	"math/big"
	"strings"
	"testing"

	"loop.example/g00925/impl"
)

func TestPromise2CodeNames(t *testing.T) {
	want := "ok invalid range not-found exists full state order syntax format checksum truncated"
	for code, name := range strings.Fields(want) {
		expect(t, "CodeName", impl.CodeName(int64(code)), name)
	}
	for _, code := range []int64{-1, 12, math.MinInt64, math.MaxInt64, 1 << 32} {
		expect(t, "CodeName of no code", impl.CodeName(code), "")
	}
}

func TestPromise2Names(t *testing.T) {
	for _, s := range []string{"a", "z", "a0", "z9", "hill7", "abcdefghij", "a123456789"} {
		if !impl.IsName(s) {
			t.Errorf("%q is a name", s)
		}
	}
	for _, s := range []string{"", "0", "9a", "A", "aB", "a-b", "a b", "a.", "a/", "a:", "a@", "a[", "a`", "a{", "{a", "`a", "abcdefghijk", "é", "a\xff", "a\n", "a\x00"} {
		if impl.IsName(s) {
			t.Errorf("%q is no name", s)
		}
	}
}

func TestPromise2DecimalsAreReadBack(t *testing.T) {
	list := append(append(numbers(2000), extremes...), -999999999999999999, -1000000000000000000)
	for _, n := range list {
		for _, v := range []int64{n, -n} {
			want := big.NewInt(v).String()
			expect(t, "Decimal", impl.Decimal(v), want)
			got, ok := impl.ReadDecimal(want)
			if short := len(strings.TrimPrefix(want, "-")) <= 18; ok != short || ok && got != v || !ok && got != 0 {
				t.Errorf("ReadDecimal(%q) = %d, %v", want, got, ok)
			}
		}
	}
}

func TestPromise2OtherDecimalsAreNotRead(t *testing.T) {
	for _, s := range []string{"", "-", "+", "-0", "00", "01", "-01", "+1", "+0", "--1", "-+1", " 1", "1 ", "1-", "1.0", "1,", "1_0", "0x1", "1e3", "a", "1a", "\t1", "1\n", "\x001", "١",
		"1000000000000000000", "-1000000000000000000", "9223372036854775808", "18446744073709551617", "000000000000000000001"} {
		if n, ok := impl.ReadDecimal(s); ok || n != 0 {
			t.Errorf("ReadDecimal(%q) = %d, %v", s, n, ok)
		}
	}
}

func TestPromise2SplitWords(t *testing.T) {
	for s, want := range map[string][]string{
		"": nil, " ": nil, "   ": nil, "a": {"a"}, " a  bc ": {"a", "bc"}, "a\tb c\nd": {"a\tb", "c\nd"}, "\xff é": {"\xff", "é"}, "a\u00a0b": {"a\u00a0b"},
	} {
		got := impl.SplitWords(s)
		if len(got) != len(want) || strings.Join(got, "|") != strings.Join(want, "|") {
			t.Errorf("SplitWords(%q) = %q, want %q", s, got, want)
		}
	}
}

func TestPromise2ListsAreReadBack(t *testing.T) {
	for text, list := range map[string][]int64{
		"-": nil, "0": {0}, "-1": {-1}, "3,0,-1": {3, 0, -1}, "1000000000000,-1000000000000": {1000000000000, -1000000000000},
		strings.Repeat("0,", 63) + "0": zeros(64),
	} {
		expect(t, "ListText", impl.ListText(list), text)
		got, ok := impl.ReadList(text)
		if !ok || len(got) != len(list) {
			t.Errorf("ReadList(%q) = %v, %v", text, got, ok)
		}
		expect(t, "ListText of ReadList", impl.ListText(got), text)
	}
	for _, list := range [][]int64{zeros(65), {1000000000001}, {-1000000000001}, {1, 2, math.MinInt64}, {math.MaxInt64}} {
		expect(t, "ListText of a bad list", impl.ListText(list), "")
	}
}

func TestPromise2OtherListsAreNotRead(t *testing.T) {
	for _, s := range []string{"", ",", "1,", ",1", "1,,2", "-,1", "1,-", "--", "1, 2", " 1", "1 ", "01", "-0", "+1", "1;2", "1000000000001", "-1000000000001", strings.Repeat("0,", 64) + "0"} {
		if list, ok := impl.ReadList(s); ok || list != nil {
			t.Errorf("ReadList(%q) = %v, %v", s, list, ok)
		}
	}
}

func TestPromise2CheckValues(t *testing.T) {
	expect(t, "Crc16 of the digits", impl.Crc16("123456789", impl.CrcStart), 0x29b1)
	expect(t, "Crc16 of the digits from 0", impl.Crc16("123456789", 0), 0x31c3)
	expect(t, "Crc16 of nothing", impl.Crc16("", 1234), 1234)
	expect(t, "Crc16 of zero bytes", impl.Crc16("\x00\x00", 0), 0)
	for _, start := range []int64{-1, 65536, math.MinInt64, math.MaxInt64} {
		expect(t, "Crc16 of a bad start", impl.Crc16("a", start), 0)
	}
	text := "h\xe9\xff\x00\x80 text"
	for i := range len(text) {
		expect(t, "Crc16 in two steps", impl.Crc16(text[i:], impl.Crc16(text[:i], impl.CrcStart)), impl.Crc16(text, impl.CrcStart))
	}
	for i := range len(text) * 8 {
		damaged := []byte(text)
		damaged[i/8] ^= 1 << (i % 8)
		if impl.Crc16(string(damaged), impl.CrcStart) == impl.Crc16(text, impl.CrcStart) {
			t.Errorf("the changed bit %d is not noticed", i)
		}
	}
}

func TestPromise2RootsAreRoundedDown(t *testing.T) {
	list := numbers(5000)
	for n := range int64(20000) {
		list = append(list, n)
	}
	for r := int64(1); r < 3037000499; r += 1 + r/3 {
		list = append(list, r*r-1, r*r, r*r+1)
	}
	list = append(list, 3037000499*3037000499-1, 3037000499*3037000499, math.MaxInt64)
	for _, n := range list {
		if want := new(big.Int).Sqrt(big.NewInt(n)).Int64(); impl.RootOf(n) != want {
			t.Errorf("RootOf(%d) = %d, want %d", n, impl.RootOf(n), want)
		}
	}
	for _, n := range []int64{-1, -4, math.MinInt64} {
		expect(t, "RootOf of a negative number", impl.RootOf(n), 0)
	}
}

// nearest is the quotient of 2 a + b and 2 b for positive numbers, rounded down.
func nearest(a, b int64) int64 {
	numerator := big.NewInt(a)
	numerator.Abs(numerator).Lsh(numerator, 1)
	divisor := big.NewInt(b)
	divisor.Abs(divisor)
	numerator.Add(numerator, divisor)
	numerator.Quo(numerator, divisor.Lsh(divisor, 1))
	if (a < 0) != (b < 0) {
		numerator.Neg(numerator)
	}
	return numerator.Int64()
}

func TestPromise2QuotientsAreNearest(t *testing.T) {
	expect(t, "the document's example", impl.DivRound(-5, 2), -3)
	for a := int64(-60); a <= 60; a++ {
		for b := int64(-25); b <= 25; b++ {
			if b != 0 && impl.DivRound(a, b) != nearest(a, b) {
				t.Errorf("DivRound(%d, %d) = %d, want %d", a, b, impl.DivRound(a, b), nearest(a, b))
			}
		}
	}
	list := numbers(400)
	for i, n := range list {
		a, b := n%impl.MaxValue, list[len(list)-1-i]%impl.MaxValue+1
		for _, pair := range [][2]int64{{a, b}, {-a, b}, {a, -b}, {-a, -b}, {impl.MaxValue, b}, {-impl.MaxValue, b}, {a, impl.MaxValue}, {a, -impl.MaxValue}} {
			if got := impl.DivRound(pair[0], pair[1]); got != nearest(pair[0], pair[1]) {
				t.Errorf("DivRound(%d, %d) = %d, want %d", pair[0], pair[1], got, nearest(pair[0], pair[1]))
			}
		}
	}
	for _, pair := range [][2]int64{{7, 0}, {0, 0}, {impl.MaxValue + 1, 2}, {-impl.MaxValue - 1, 2}, {2, impl.MaxValue + 1}, {impl.MaxValue, -impl.MaxValue - 1}, {math.MinInt64, -1}, {math.MinInt64, math.MinInt64}} {
		expect(t, "DivRound of bad numbers", impl.DivRound(pair[0], pair[1]), 0)
	}
}

func TestPromise2Between(t *testing.T) {
	expect(t, "the document's example", impl.Between(0, 10, 4, 20, 1), 13)
	const most = 1000000
	for _, c := range []struct{ x0, y0, x1, y1, x, want int64 }{
		{0, 10, 4, 20, 0, 10}, {0, 10, 4, 20, 4, 20}, {0, 10, 4, 20, -1, 10}, {0, 10, 4, 20, 5, 20}, {0, 10, 4, 20, 3, 18}, {0, 20, 4, 10, 1, 17}, {0, 0, 4, -6, 1, -2},
		{4, 10, 4, 20, 9, 10}, {5, 10, 4, 20, 9, 10}, {0, 10, 4, 20, math.MinInt64, 10}, {0, 10, 4, 20, math.MaxInt64, 20},
		{-most, -most, most, most, 1, 1}, {-most, most, most, -most, 999999, -999999}, {-most, 7, most, 8, 0, 8},
		{most + 1, 1, 2, 2, 0, 0}, {-most - 1, 1, 2, 2, 0, 0}, {0, most + 1, 2, 2, 0, 0}, {0, -most - 1, 2, 2, 0, 0}, {0, 1, most + 1, 2, 0, 0},
		{0, 1, -most - 1, 2, 0, 0}, {0, 1, 2, most + 1, 0, 0}, {0, 1, 2, -most - 1, 0, 0}, {0, 1, 2, math.MinInt64, 1, 0},
	} {
		if got := impl.Between(c.x0, c.y0, c.x1, c.y1, c.x); got != c.want {
			t.Errorf("Between%v = %d", c, got)
		}
	}
	for _, n := range numbers(500) {
		x1, y0, y1, x := 1+n%most, n/7%most, -(n / 11 % most), n/13%most
		want := y1
		if x <= 0 {
			want = y0
		} else if x < x1 {
			want = y0 + nearest((y1-y0)*x, x1)
		}
		expect(t, "Between", impl.Between(0, y0, x1, y1, x), want)
	}
}
