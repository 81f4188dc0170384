package tests

import (
	"math"
	"slices"
	"strconv"
	"strings"
	"testing"

	"loop.example/g01011/impl"
)

// Promise 2: names, and texts that are read back.

func TestCodeName(t *testing.T) {
	codes := []int64{
		impl.OK, impl.ErrInvalid, impl.ErrRange, impl.ErrNotFound, impl.ErrExists, impl.ErrFull,
		impl.ErrState, impl.ErrOrder, impl.ErrSyntax, impl.ErrFormat, impl.ErrChecksum, impl.ErrTruncated,
	}
	names := strings.Fields("ok invalid range not-found exists full state order syntax format checksum truncated")
	for i, want := range names {
		if codes[i] != int64(i) || impl.CodeName(codes[i]) != want {
			t.Errorf("CodeName(%d) = %q, want %q", codes[i], impl.CodeName(codes[i]), want)
		}
	}
	for _, code := range []int64{math.MinInt64, -11, -1, 12, 13, 256, 1 << 32, math.MaxInt64} {
		if got := impl.CodeName(code); got != "" {
			t.Errorf("CodeName(%d) = %q, want none", code, got)
		}
	}
}

func TestIsNameForEveryByte(t *testing.T) {
	for b := range 256 {
		letter := b >= 'a' && b <= 'z'
		digit := b >= '0' && b <= '9'
		one := string([]byte{byte(b)})
		if got := impl.IsName(one); got != letter {
			t.Errorf("IsName(%q) = %v", one, got)
		}
		for _, s := range []string{"a" + one, "a" + one + "b", "abcdefghi" + one} {
			if got := impl.IsName(s); got != (letter || digit) {
				t.Errorf("IsName(%q) = %v", s, got)
			}
		}
	}
}

func TestIsNameLength(t *testing.T) {
	for n := range 2 * impl.MaxName {
		s := strings.Repeat("k", n)
		if got, want := impl.IsName(s), n >= 1 && n <= impl.MaxName; got != want {
			t.Errorf("IsName of %d letters = %v", n, got)
		}
	}
	// The limit counts bytes, and none of these letters is one of a name.
	for _, s := range []string{"é", "aé", "ⅷ", "a٣", "ａ", "a\x00", " a", "a ", "a\n"} {
		if impl.IsName(s) {
			t.Errorf("IsName(%q) = true", s)
		}
	}
}

func TestDecimal(t *testing.T) {
	cases := map[int64]string{
		0: "0", 1: "1", -1: "-1", 9: "9", 10: "10", -10: "-10", 120: "120",
		math.MaxInt64: "9223372036854775807", math.MinInt64: "-9223372036854775808",
		math.MinInt64 + 1: "-9223372036854775807",
	}
	for n, want := range cases {
		if got := impl.Decimal(n); got != want {
			t.Errorf("Decimal(%d) = %q, want %q", n, got, want)
		}
	}
}

func TestDecimalIsReadBack(t *testing.T) {
	numbers := []int64{0, 1, -1, 999999999999999999, -999999999999999999, impl.MaxValue, -impl.MaxValue}
	for power := int64(1); power <= 100000000000000000; power *= 10 {
		numbers = append(numbers, power, power-1, power+1, -power, 1-power, -power-1)
	}
	for _, n := range numbers {
		if got, ok := impl.ReadDecimal(impl.Decimal(n)); got != n || !ok {
			t.Errorf("ReadDecimal(%q) = %d, %v", impl.Decimal(n), got, ok)
		}
	}
}

func TestReadDecimalRefuses(t *testing.T) {
	texts := []string{
		"", " ", "-", "--", "+", "-0", "+0", "00", "000", "01", "-01", "+1", "++1", "--1", "-+1", "1-", "- 1",
		" 1", "1 ", "1 2", "\t1", "1\n", "1\r\n", "1\x00", "\x001", "1_000", "1,000", "1.0", "1.", ".1", "1e3",
		"0x1", "0b1", "0o7", "a", "1a", "a1", "١", "１", "−1", "1\xff", "\xff",
		"1000000000000000000", "-1000000000000000000", "9223372036854775807", "-9223372036854775808",
		"9223372036854775808", "18446744073709551617", "0000000000000000001", "000000000000000001",
		strings.Repeat("9", 1000), strings.Repeat("0", 1000), strings.Repeat("-", 1000),
	}
	for _, s := range texts {
		if n, ok := impl.ReadDecimal(s); n != 0 || ok {
			t.Errorf("ReadDecimal(%q) = %d, %v", s, n, ok)
		}
	}
}

func TestReadDecimalGivesOnlyDecimals(t *testing.T) {
	signs := []string{"0", "1", "9", "-", "+", " ", "_", "x"}
	for _, a := range signs {
		for _, b := range signs {
			for _, c := range signs {
				s := a + b + c
				n, ok := impl.ReadDecimal(s)
				exact, err := strconv.Atoi(s)
				if want := err == nil && strconv.Itoa(exact) == s; ok != want {
					t.Errorf("ReadDecimal(%q) = %d, %v", s, n, ok)
				}
				if ok && impl.Decimal(n) != s {
					t.Errorf("Decimal(ReadDecimal(%q)) = %q", s, impl.Decimal(n))
				}
			}
		}
	}
}

func TestSplitWords(t *testing.T) {
	cases := []struct {
		line string
		want []string
	}{
		{"", nil},
		{" ", nil},
		{"     ", nil},
		{"a", []string{"a"}},
		{"a b", []string{"a", "b"}},
		{" a  bc ", []string{"a", "bc"}},
		{"   one two   three", []string{"one", "two", "three"}},
		{"a a a", []string{"a", "a", "a"}},
		// Only the blank divides, not what else looks empty.
		{"a\tb c", []string{"a\tb", "c"}},
		{"a\nb\r\n c\v\fd", []string{"a\nb\r\n", "c\v\fd"}},
		{"a\u00a0b\u2003c \u0085", []string{"a\u00a0b\u2003c", "\u0085"}},
		{"\xff\xfe \xa0 \x00", []string{"\xff\xfe", "\xa0", "\x00"}},
		{"-1,2 -", []string{"-1,2", "-"}},
	}
	for _, c := range cases {
		if got := impl.SplitWords(c.line); !slices.Equal(got, c.want) {
			t.Errorf("SplitWords(%q) = %q, want %q", c.line, got, c.want)
		}
	}
	many := strings.Repeat(" word", 1000)
	if got := impl.SplitWords(many); len(got) != 1000 || got[0] != "word" || got[999] != "word" {
		t.Errorf("SplitWords gives %d words of 1000", len(got))
	}
}

func TestListText(t *testing.T) {
	full := slices.Repeat([]int64{7}, impl.MaxList)
	cases := []struct {
		list []int64
		want string
	}{
		{nil, "-"},
		{[]int64{}, "-"},
		{[]int64{0}, "0"},
		{[]int64{-1}, "-1"},
		{[]int64{3, 0, -1}, "3,0,-1"},
		{[]int64{3, 3, 1}, "3,3,1"},
		{[]int64{impl.MaxValue, -impl.MaxValue}, "1000000000000,-1000000000000"},
		{[]int64{impl.MaxValue + 1}, ""},
		{[]int64{-impl.MaxValue - 1}, ""},
		{[]int64{1, 2, impl.MaxValue + 1}, ""},
		{[]int64{-impl.MaxValue - 1, 1, 2}, ""},
		{[]int64{math.MinInt64}, ""},
		{[]int64{math.MaxInt64}, ""},
		{full, strings.Repeat("7,", impl.MaxList-1) + "7"},
		{append(slices.Clone(full), 7), ""},
		{make([]int64, 1000), ""},
	}
	for _, c := range cases {
		if got := impl.ListText(c.list); got != c.want {
			t.Errorf("ListText(%d) = %q, want %q", c.list, got, c.want)
		}
	}
}

func TestListTextIsReadBack(t *testing.T) {
	lists := [][]int64{
		nil, {0}, {-1}, {1, 2, 3}, {3, 0, -1}, {0, 0, 0},
		{impl.MaxValue, -impl.MaxValue}, make([]int64, impl.MaxList),
		slices.Repeat([]int64{-impl.MaxValue}, impl.MaxList),
	}
	for _, list := range lists {
		if got, ok := impl.ReadList(impl.ListText(list)); !ok || !slices.Equal(got, list) {
			t.Errorf("ReadList(%q) = %d, %v", impl.ListText(list), got, ok)
		}
	}
}

func TestReadListRefuses(t *testing.T) {
	texts := []string{
		"", " ", ",", ",,", "--", "-,", ",-", "-,1", "1,-", "- ", " -", "-\n", "[]",
		"1,", ",1", "1,,2", "1, 2", "1 ,2", " 1", "1 ", "1;2", "1 2", "1.5", "a", "1,a", "1\n", "1,2\n",
		"01", "1,01", "00", "-0", "1,-0", "+1", "1,+1", "1_0", "--1", "-01",
		"1000000000001", "-1000000000001", "1,1000000000001", "999999999999999999", "9223372036854775808",
		strings.Repeat("0,", impl.MaxList) + "0",
		strings.Repeat("0,", impl.MaxList),
		strings.Repeat("0,", impl.MaxList+1) + "0",
		strings.Repeat("0,", 100000) + "0",
	}
	for _, s := range texts {
		if list, ok := impl.ReadList(s); len(list) != 0 || ok {
			t.Errorf("ReadList(%q) = %d, %v", s, list, ok)
		}
	}
}

func TestCrc16(t *testing.T) {
	cases := []struct {
		s           string
		start, want int64
	}{
		{"123456789", impl.CrcStart, 0x29b1},
		{"123456789", 0, 0x31c3},
		{"A", impl.CrcStart, 0xb915},
		{"", impl.CrcStart, impl.CrcStart},
		{"", 0, 0},
		{"", 5, 5},
		{"\x00", 0, 0},
		{"\x01", 0, 4129},
		{"", -1, 0},
		{"a", -1, 0},
		{"a", 65536, 0},
		{"", 65536, 0},
		{"a", math.MinInt64, 0},
		{"a", math.MaxInt64, 0},
	}
	for _, c := range cases {
		if got := impl.Crc16(c.s, c.start); got != c.want {
			t.Errorf("Crc16(%q, %d) = %d, want %d", c.s, c.start, got, c.want)
		}
	}
}

// exactCrc divides polynomials bit by bit, as another way to the same value.
func exactCrc(s string, start int64) int64 {
	value := start
	for _, b := range []byte(s) {
		for bit := 7; bit >= 0; bit-- {
			top := value>>15&1 ^ int64(b)>>bit&1
			value = value<<1&0xffff ^ top*0x1021
		}
	}
	return value
}

func TestCrc16OfAllBytes(t *testing.T) {
	all := make([]byte, 256)
	for i := range all {
		all[i] = byte(i)
	}
	s := string(all)
	for _, start := range []int64{0, 1, 4129, 32767, 32768, impl.CrcStart} {
		if got, want := impl.Crc16(s, start), exactCrc(s, start); got != want {
			t.Errorf("Crc16 of all bytes from %d = %d, want %d", start, got, want)
		}
		for cut := range s {
			if got := impl.Crc16(s[cut:], impl.Crc16(s[:cut], start)); got != exactCrc(s, start) {
				t.Errorf("Crc16 divided at %d from %d = %d", cut, start, got)
			}
		}
	}
}
