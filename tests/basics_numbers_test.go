package tests

import (
	"math"
	"math/big"
	"math/rand"
	"testing"

	"loop.example/g01011/impl"
)

// Promise 2: roots are rounded down and quotients are nearest.

func checkRoot(t *testing.T, n int64) {
	t.Helper()
	r := impl.RootOf(n)
	low := new(big.Int).Mul(big.NewInt(r), big.NewInt(r))
	high := new(big.Int).Mul(big.NewInt(r+1), big.NewInt(r+1))
	if r < 0 || low.Cmp(big.NewInt(n)) > 0 || high.Cmp(big.NewInt(n)) <= 0 {
		t.Errorf("RootOf(%d) = %d", n, r)
	}
}

func TestRootOf(t *testing.T) {
	for n := range int64(5000) {
		checkRoot(t, n)
	}
	for _, r := range []int64{1000, 46340, 46341, 65535, 65536, 94906265, 94906266, 94906267, 2147483647, 2147483648, 3037000498, 3037000499} {
		checkRoot(t, r*r-1)
		checkRoot(t, r*r)
		checkRoot(t, r*r+1)
	}
	for bit := range 63 {
		checkRoot(t, 1<<bit-1)
		checkRoot(t, 1<<bit)
		checkRoot(t, 1<<bit+1)
	}
	checkRoot(t, math.MaxInt64-1)
	checkRoot(t, math.MaxInt64)
	for _, n := range []int64{-1, -2, -4, -16, -math.MaxInt64, math.MinInt64} {
		if got := impl.RootOf(n); got != 0 {
			t.Errorf("RootOf(%d) = %d", n, got)
		}
	}
}

// exactQuotient rounds half away from zero, without limits for the numbers.
func exactQuotient(a, b *big.Int) int64 {
	numerator := new(big.Int).Abs(a)
	denominator := new(big.Int).Abs(b)
	numerator.Add(numerator.Lsh(numerator, 1), denominator)
	quotient := numerator.Quo(numerator, denominator.Lsh(denominator, 1))
	if a.Sign()*b.Sign() < 0 {
		quotient.Neg(quotient)
	}
	return quotient.Int64()
}

func checkQuotient(t *testing.T, a, b int64) {
	t.Helper()
	want := int64(0)
	if b != 0 {
		want = exactQuotient(big.NewInt(a), big.NewInt(b))
	}
	if got := impl.DivRound(a, b); got != want {
		t.Errorf("DivRound(%d, %d) = %d, want %d", a, b, got, want)
	}
}

func TestDivRound(t *testing.T) {
	cases := []struct{ a, b, want int64 }{
		{-5, 2, -3}, {5, 2, 3}, {5, -2, -3}, {-5, -2, 3}, {1, 2, 1}, {-1, 2, -1},
		{4, 3, 1}, {5, 3, 2}, {-1, 3, 0}, {-2, 3, -1}, {0, 7, 0}, {6, 3, 2},
		{7, 0, 0}, {0, 0, 0}, {-7, 0, 0}, {impl.MaxValue, 0, 0},
		{impl.MaxValue, 1, impl.MaxValue}, {impl.MaxValue, -1, -impl.MaxValue},
		{impl.MaxValue - 1, impl.MaxValue, 1}, {impl.MaxValue / 2, impl.MaxValue, 1}, {impl.MaxValue/2 - 1, impl.MaxValue, 0},
	}
	for _, c := range cases {
		if got := impl.DivRound(c.a, c.b); got != c.want {
			t.Errorf("DivRound(%d, %d) = %d, want %d", c.a, c.b, got, c.want)
		}
	}
	for a := int64(-40); a <= 40; a++ {
		for b := int64(-40); b <= 40; b++ {
			checkQuotient(t, a, b)
		}
	}
	random := rand.New(rand.NewSource(1))
	for range 5000 {
		checkQuotient(t, random.Int63n(2*impl.MaxValue+1)-impl.MaxValue, random.Int63n(20001)-10000)
		checkQuotient(t, random.Int63n(2*impl.MaxValue+1)-impl.MaxValue, random.Int63n(2*impl.MaxValue+1)-impl.MaxValue)
	}
}

func TestDivRoundLimits(t *testing.T) {
	for _, a := range []int64{-impl.MaxValue, impl.MaxValue} {
		for _, b := range []int64{-impl.MaxValue, -3, -2, -1, 1, 2, 3, impl.MaxValue} {
			checkQuotient(t, a, b)
			checkQuotient(t, b, a)
		}
	}
	for _, n := range []int64{-impl.MaxValue - 1, impl.MaxValue + 1, math.MinInt64, math.MaxInt64} {
		for _, other := range []int64{-impl.MaxValue, -1, 0, 1, impl.MaxValue, n} {
			if got := impl.DivRound(n, other); got != 0 {
				t.Errorf("DivRound(%d, %d) = %d", n, other, got)
			}
			if got := impl.DivRound(other, n); got != 0 {
				t.Errorf("DivRound(%d, %d) = %d", other, n, got)
			}
		}
	}
}

const blendLimit = 1000000

func TestBlend(t *testing.T) {
	cases := []struct{ x0, y0, x1, y1, x, want int64 }{
		{0, 10, 4, 20, 1, 13}, // 12.5, away from zero
		{0, -10, 4, -20, 1, -13},
		{0, 20, 4, 10, 1, 17}, // the difference -2.5 is rounded, not the 17.5
		{0, 0, 4, -6, 1, -2},
		{0, 10, 4, 20, 0, 10},
		{0, 10, 4, 20, -1, 10},
		{0, 10, 4, 20, 4, 20},
		{0, 10, 4, 20, 5, 20},
		{0, 10, 4, 20, math.MinInt64, 10},
		{0, 10, 4, 20, math.MaxInt64, 20},
		{4, 10, 4, 20, 3, 10},
		{4, 10, 4, 20, 4, 10},
		{4, 10, 4, 20, 9, 10},
		{5, 10, 4, 20, 4, 10},
		{5, 10, 4, 20, 9, 10},
		{5, 10, 4, 20, math.MaxInt64, 10},
		{-3, 7, 9, 7, 2, 7},
	}
	for _, c := range cases {
		if got := impl.Blend(c.x0, c.y0, c.x1, c.y1, c.x); got != c.want {
			t.Errorf("Blend(%d, %d, %d, %d, %d) = %d, want %d", c.x0, c.y0, c.x1, c.y1, c.x, got, c.want)
		}
	}
}

func TestBlendLimits(t *testing.T) {
	points := [4]int64{-blendLimit, blendLimit, blendLimit, -blendLimit}
	for x := int64(-blendLimit); x <= blendLimit; x += 12345 {
		if got := impl.Blend(points[0], points[1], points[2], points[3], x); got != -x {
			t.Errorf("Blend between the limits at %d = %d", x, got)
		}
	}
	for i := range points {
		for _, beyond := range []int64{-blendLimit - 1, blendLimit + 1, math.MinInt64, math.MaxInt64} {
			p := points
			p[i] = beyond
			for _, x := range []int64{math.MinInt64, -blendLimit - 2, 5, blendLimit + 2, math.MaxInt64} {
				if got := impl.Blend(p[0], p[1], p[2], p[3], x); got != 0 {
					t.Errorf("Blend(%d, %d, %d, %d, %d) = %d", p[0], p[1], p[2], p[3], x, got)
				}
			}
		}
	}
}

func TestBlendIsNearestToTheLine(t *testing.T) {
	random := rand.New(rand.NewSource(2))
	for _, span := range []int64{3, 30, blendLimit} {
		for range 3000 {
			number := func() int64 { return random.Int63n(2*span+1) - span }
			x0, y0, x1, y1, x := number(), number(), number(), number(), number()
			want := y0
			if x1 > x0 && x > x0 {
				rise := new(big.Int).Mul(big.NewInt(y1-y0), big.NewInt(min(x, x1)-x0))
				want += exactQuotient(rise, big.NewInt(x1-x0))
			}
			if got := impl.Blend(x0, y0, x1, y1, x); got != want {
				t.Errorf("Blend(%d, %d, %d, %d, %d) = %d, want %d", x0, y0, x1, y1, x, got, want)
			}
		}
	}
}
