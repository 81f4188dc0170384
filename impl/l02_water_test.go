package impl

import (
	"slices"
	"strings"
	"testing"
)

// Several chapters read points, and rely on there being no more than they ask for.
func TestReadPointsUpToALimit(t *testing.T) {
	want := points{{0, 5}, {3, -7}, {4, 0}}
	text := want.String()
	if text != "0:5 3:-7 4:0" {
		t.Errorf("the points are written as %q", text)
	}
	for most := range 5 {
		got, ok := readPoints(text, most)
		if isFew := len(want) <= most; ok != isFew || isFew && !slices.Equal(got, want) || !isFew && got != nil {
			t.Errorf("readPoints(%q, %d) = %v, %v", text, most, got, ok)
		}
	}
	for _, s := range []string{"", " ", "0", "0:", ":0", "0:5 ", " 0:5", "0:5  3:7", "0:5:3", "0:5 x", strings.Repeat("0:5 ", 1000)} {
		if got, ok := readPoints(s, 100); got != nil || ok {
			t.Errorf("readPoints(%q) = %v, %v", s[:min(len(s), 20)], got, ok)
		}
	}
}

// Later chapters take the first one of several best numbers.
func TestFirstLeast(t *testing.T) {
	heights := []int64{5, 3, 4, -2, 7, -2, 9}
	cases := []struct{ low, high, at, least int64 }{
		{0, 6, 3, -2}, {0, 2, 1, 3}, {2, 2, 2, 4}, {4, 6, 5, -2}, {5, 6, 5, -2}, {0, 0, 0, 5}, {3, 5, 3, -2},
	}
	for _, c := range cases {
		at, least := firstLeast(c.low, c.high, func(n int64) int64 { return heights[n] })
		if at != c.at || least != c.least {
			t.Errorf("firstLeast(%d, %d) = %d, %d, want %d, %d", c.low, c.high, at, least, c.at, c.least)
		}
	}
}

// What never reaches a power even at the end of a range is told of by a code, not by a number behind it.
func TestLeastFor(t *testing.T) {
	heights := []int64{-3, 0, 0, 4, 4, 9}
	cases := []struct{ power, low, high, want, code int64 }{
		{-9, 0, 5, 0, OK}, {-3, 0, 5, 0, OK}, {-2, 0, 5, 1, OK}, {0, 0, 5, 1, OK}, {1, 0, 5, 3, OK}, {4, 4, 5, 4, OK}, {9, 0, 5, 5, OK},
		{10, 0, 5, 0, ErrState}, {9, 0, 4, 0, ErrState}, {1, 0, 0, 0, ErrState}, {-3, 0, 0, 0, OK}, {9, 5, 5, 5, OK},
	}
	for _, c := range cases {
		got, code := leastFor(c.power, c.low, c.high, func(n int64) int64 { return heights[n] })
		if got != c.want || code != c.code {
			t.Errorf("leastFor(%d, %d, %d) = %d, %d, want %d, %d", c.power, c.low, c.high, got, code, c.want, c.code)
		}
	}
}
