package impl

import (
	"math"
	"math/big"
	"slices"
	"testing"
)

// exactNearest rounds half away from zero in arithmetic without limits.
func exactNearest(a, b int64) *big.Int {
	numerator := new(big.Int).Abs(big.NewInt(a))
	denominator := new(big.Int).Abs(big.NewInt(b))
	numerator.Mul(numerator, big.NewInt(2)).Add(numerator, denominator)
	quotient := numerator.Quo(numerator, denominator.Mul(denominator, big.NewInt(2)))
	if (a < 0) != (b < 0) {
		quotient.Neg(quotient)
	}
	return quotient
}

// Later chapters round formulas whose numbers are beyond the limits of DivRound.
func TestNearestForAllNumbers(t *testing.T) {
	numbers := []int64{
		math.MinInt64, math.MinInt64 + 1, math.MinInt64 / 2, math.MinInt64/2 - 1, math.MinInt64/2 + 1,
		-MaxValue - 1, -MaxValue, -7, -5, -3, -2, -1, 0, 1, 2, 3, 5, 7, MaxValue, MaxValue + 1,
		math.MaxInt64/2 - 1, math.MaxInt64 / 2, math.MaxInt64/2 + 1, math.MaxInt64 - 1, math.MaxInt64,
	}
	for _, a := range numbers {
		for _, b := range numbers {
			got := nearest(a, b)
			if b == 0 {
				if got != 0 {
					t.Errorf("nearest(%d, 0) = %d", a, got)
				}
				continue
			}
			want := exactNearest(a, b)
			if want.IsInt64() && got != want.Int64() {
				t.Errorf("nearest(%d, %d) = %d, want %s", a, b, got, want)
			}
		}
	}
}

func TestBlendBeyondItsLimits(t *testing.T) {
	cases := []struct{ x0, y0, x1, y1, x, want int64 }{
		{0, 0, 2 * maxBlend, 4 * maxBlend, maxBlend, 2 * maxBlend},
		{-2 * maxBlend, 0, 2 * maxBlend, 3, 0, 2},
		{0, MaxValue, 2, MaxValue + 3, 1, MaxValue + 2},
		{0, MaxValue, 2, MaxValue - 3, 1, MaxValue - 2},
	}
	for _, c := range cases {
		if got := blend(c.x0, c.y0, c.x1, c.y1, c.x); got != c.want {
			t.Errorf("blend(%d, %d, %d, %d, %d) = %d, want %d", c.x0, c.y0, c.x1, c.y1, c.x, got, c.want)
		}
	}
}

func TestRoundedUp(t *testing.T) {
	cases := []struct{ a, b, want int64 }{
		{0, 1, 0}, {0, 7, 0}, {1, 7, 1}, {6, 7, 1}, {7, 7, 1}, {8, 7, 2}, {14, 7, 2}, {15, 7, 3}, {5, 1, 5},
		{MaxValue, MaxValue, 1}, {MaxValue + 1, MaxValue, 2},
	}
	for _, c := range cases {
		if got := roundedUp(c.a, c.b); got != c.want {
			t.Errorf("roundedUp(%d, %d) = %d, want %d", c.a, c.b, got, c.want)
		}
	}
}

func TestTotal(t *testing.T) {
	length := func(s string) int64 { return int64(len(s)) }
	if got := total([]string{"a", "", "bcd"}, length); got != 4 {
		t.Errorf("total of lengths = %d", got)
	}
	if got := total(nil, length); got != 0 {
		t.Errorf("total of nothing = %d", got)
	}
}

func TestSumOf(t *testing.T) {
	if got := sumOf(); got != 0 {
		t.Errorf("the sum of nothing is %d", got)
	}
	if got := sumOf(MaxValue, -7, 0, MaxValue); got != 2*MaxValue-7 {
		t.Errorf("the sum of several numbers is %d", got)
	}
}

// Several chapters return the places of what they look for.
func TestIndicesWhere(t *testing.T) {
	isShort := func(s string) bool { return len(s) < 2 }
	cases := []struct {
		values []string
		want   []int64
	}{
		{nil, nil}, {[]string{"ab"}, nil}, {[]string{"a"}, []int64{0}}, {[]string{"ab", "", "abc", "b", "c"}, []int64{1, 3, 4}},
	}
	for _, c := range cases {
		if got := indicesWhere(c.values, isShort); !slices.Equal(got, c.want) {
			t.Errorf("indicesWhere(%q) = %d, want %d", c.values, got, c.want)
		}
	}
}

// Several chapters take lists of values with names.
func TestAreNamed(t *testing.T) {
	nameOf := func(name string) string { return name }
	cases := []struct {
		names []string
		most  int
		want  bool
	}{
		{nil, 0, true}, {[]string{"a"}, 0, false}, {[]string{"a"}, 1, true}, {[]string{"a", "b"}, 1, false}, {[]string{"a", "b"}, 2, true},
		{[]string{"b", "a"}, 2, false}, {[]string{"a", "a"}, 2, false}, {[]string{"a", "B"}, 2, false}, {[]string{"", "b"}, 3, false}, {[]string{"a", "c", "b"}, 3, false},
	}
	for _, c := range cases {
		if got := areNamed(c.names, c.most, IsName, nameOf); got != c.want {
			t.Errorf("areNamed(%q, %d) = %v", c.names, c.most, got)
		}
	}
}
