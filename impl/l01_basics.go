package impl

import (
	"cmp"
	"math/bits"
	"slices"
	"strconv"
	"strings"
)

// Constants of chapter 1.
const (
	OK           = 0
	ErrInvalid   = 1
	ErrRange     = 2
	ErrNotFound  = 3
	ErrExists    = 4
	ErrFull      = 5
	ErrState     = 6
	ErrOrder     = 7
	ErrSyntax    = 8
	ErrFormat    = 9
	ErrChecksum  = 10
	ErrTruncated = 11
	MaxName      = 10
	MaxList      = 64
	MaxBudget    = 20000
	MaxValue     = 1000000000000
	CrcStart     = 65535
)

const (
	maxDigits     = 18
	maxBlend      = 1000000
	crcMask       = 65535
	crcDivisor    = 4129
	emptyList     = "-"
	listSeparator = ","
)

// CodeName returns the name of an error code; the empty string for other numbers.
func CodeName(code int64) string {
	names := [...]string{
		OK:           "ok",
		ErrInvalid:   "invalid",
		ErrRange:     "range",
		ErrNotFound:  "not-found",
		ErrExists:    "exists",
		ErrFull:      "full",
		ErrState:     "state",
		ErrOrder:     "order",
		ErrSyntax:    "syntax",
		ErrFormat:    "format",
		ErrChecksum:  "checksum",
		ErrTruncated: "truncated",
	}
	if !within(OK, ErrTruncated, code) {
		return ""
	}
	return names[code]
}

// IsName reports whether s is a name.
func IsName(s string) bool {
	if !within(1, MaxName, len(s)) || !isLetter(s[0]) {
		return false
	}
	for i := range len(s) {
		if !isLetter(s[i]) && !isDigit(s[i]) {
			return false
		}
	}
	return true
}

// Decimal returns a number in decimal.
func Decimal(n int64) string {
	return strconv.FormatInt(n, 10)
}

// ReadDecimal returns the number with a decimal form of at most 18 digits.
func ReadDecimal(s string) (int64, bool) {
	if len(strings.TrimPrefix(s, "-")) > maxDigits {
		return 0, false
	}
	n, err := strconv.ParseInt(s, 10, 64)
	// ParseInt also takes forms that Decimal never gives: "+1", "-0", "01".
	if err != nil || Decimal(n) != s {
		return 0, false
	}
	return n, true
}

// SplitWords divides a line at blanks, and leaves out empty parts.
func SplitWords(s string) []string {
	// strings.Fields would divide at tabs and line ends as well.
	return strings.FieldsFunc(s, func(r rune) bool { return r == ' ' })
}

// ListText returns a list of numbers as text; the empty string if the list has none.
func ListText(list []int64) string {
	if len(list) > MaxList || !within(-MaxValue, MaxValue, list...) {
		return ""
	}
	if len(list) == 0 {
		return emptyList
	}
	return strings.Join(converted(list, Decimal), listSeparator)
}

// ReadList returns the list with a text.
func ReadList(s string) ([]int64, bool) {
	if s == emptyList {
		return nil, true
	}
	// One part more than a list may have is enough to refuse a text of any length.
	parts := strings.SplitN(s, listSeparator, MaxList+1)
	list := make([]int64, len(parts))
	for i, part := range parts {
		n, ok := ReadDecimal(part)
		if !ok {
			return nil, false
		}
		list[i] = n
	}
	if ListText(list) != s {
		return nil, false
	}
	return list, true
}

// Crc16 returns the check value of bytes; 0 if start is not one of 16 bits.
func Crc16(s string, start int64) int64 {
	if !within(0, crcMask, start) {
		return 0
	}
	check := start
	for i := range len(s) {
		check ^= int64(s[i]) * 256
		for range 8 {
			check *= 2
			if check > crcMask {
				check = check&crcMask ^ crcDivisor
			}
		}
	}
	return check
}

// RootOf returns the square root, rounded down; 0 for negative numbers.
func RootOf(n int64) int64 {
	if n <= 0 {
		return 0
	}
	square := uint64(n)
	root := uint64(0)
	for bit := uint64(1) << ((bits.Len64(square) - 1) / 2); bit > 0; bit /= 2 {
		// A try is below 2 to the power of 32, so its square fits into uint64, but not always into int64.
		if try := root | bit; try*try <= square {
			root = try
		}
	}
	return int64(root)
}

// DivRound returns the nearest quotient; 0 if a number is out of its limits or b is 0.
func DivRound(a, b int64) int64 {
	if !within(-MaxValue, MaxValue, a, b) {
		return 0
	}
	return nearest(a, b)
}

// Blend returns a number on a line through two points; 0 if a point is out of its limits.
func Blend(x0, y0, x1, y1, x int64) int64 {
	if !within(-maxBlend, maxBlend, x0, y0, x1, y1) {
		return 0
	}
	return blend(x0, y0, x1, y1, x)
}

// nearest is DivRound for all numbers.
func nearest(a, b int64) int64 {
	if b == 0 {
		return 0
	}
	quotient, rest := a/b, size(a%b)
	// The rest is below 2 to the power of 63, so twice the rest fits into uint64.
	if 2*rest < size(b) {
		return quotient
	}
	if (a < 0) == (b < 0) {
		return quotient + 1
	}
	return quotient - 1
}

// roundedUp returns a quotient, for a from 0 on and b from 1 on.
func roundedUp(a, b int64) int64 {
	return (a + b - 1) / b
}

// blend is Blend without limits for the points.
func blend(x0, y0, x1, y1, x int64) int64 {
	if x1 <= x0 {
		return y0
	}
	return y0 + nearest((y1-y0)*(clamp(x0, x1, x)-x0), x1-x0)
}

// size returns the absolute value, which for the least number does not fit into int64.
func size(n int64) uint64 {
	if n < 0 {
		return -uint64(n)
	}
	return uint64(n)
}

// within reports whether all values are from low to high; if high is less than low, none is.
func within[T cmp.Ordered](low, high T, values ...T) bool {
	for _, v := range values {
		if v < low || v > high {
			return false
		}
	}
	return true
}

// isIncreasing reports whether the keys of values are strictly increasing.
func isIncreasing[T any, K cmp.Ordered](values []T, key func(T) K) bool {
	for i := 1; i < len(values); i++ {
		if key(values[i]) <= key(values[i-1]) {
			return false
		}
	}
	return true
}

// areNamed reports whether there are at most so many values, all of them are valid, and their names are strictly
// increasing.
func areNamed[T any](values []T, most int, isValid func(T) bool, nameOf func(T) string) bool {
	return len(values) <= most &&
		!slices.ContainsFunc(values, func(v T) bool { return !isValid(v) }) &&
		isIncreasing(values, nameOf)
}

// total returns the sum of the amounts of values.
func total[T any](values []T, amount func(T) int64) int64 {
	sum := int64(0)
	for _, v := range values {
		sum += amount(v)
	}
	return sum
}

// sumOf returns the sum of values.
func sumOf(values ...int64) int64 {
	return total(values, func(v int64) int64 { return v })
}

// converted returns what a function makes of each value.
func converted[T, U any](values []T, convert func(T) U) []U {
	list := make([]U, len(values))
	for i, v := range values {
		list[i] = convert(v)
	}
	return list
}

// indicesWhere returns the indices of the values for which a condition holds, in increasing order.
func indicesWhere[T any](values []T, holds func(T) bool) []int64 {
	var list []int64
	for i, v := range values {
		if holds(v) {
			list = append(list, int64(i))
		}
	}
	return list
}

// argumentCode returns the error of an argument that is valid or not, or else that of the others, which are in their
// ranges or not.
func argumentCode(isValid, inRange bool) int64 {
	switch {
	case !isValid:
		return ErrInvalid
	case !inRange:
		return ErrRange
	}
	return OK
}

// clamp returns the value from low to high that is nearest to v.
func clamp[T cmp.Ordered](low, high, v T) T {
	return max(low, min(v, high))
}

func isLetter(b byte) bool {
	return within('a', 'z', b)
}

func isDigit(b byte) bool {
	return within('0', '9', b)
}
