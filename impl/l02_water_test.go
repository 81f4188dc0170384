package impl

import (
	"slices"
	"strings"
	"testing"
)

// Several chapters read points, and rely on there being no more than they ask for.
func TestReadPointsUpToALimit(t *testing.T) {
	want := points{{0, 5}, {3, -7}, {4, 0}}
	text := want.String()
	if text != "0:5 3:-7 4:0" {
		t.Errorf("the points are written as %q", text)
	}
	for most := range 5 {
		got, ok := readPoints(text, most)
		if isFew := len(want) <= most; ok != isFew || isFew && !slices.Equal(got, want) || !isFew && got != nil {
			t.Errorf("readPoints(%q, %d) = %v, %v", text, most, got, ok)
		}
	}
	for _, s := range []string{"", " ", "0", "0:", ":0", "0:5 ", " 0:5", "0:5  3:7", "0:5:3", "0:5 x", strings.Repeat("0:5 ", 1000)} {
		if got, ok := readPoints(s, 100); got != nil || ok {
			t.Errorf("readPoints(%q) = %v, %v", s[:min(len(s), 20)], got, ok)
		}
	}
}

// Later chapters take the first one of several best numbers.
func TestFirstLeast(t *testing.T) {
	heights := []int64{5, 3, 4, -2, 7, -2, 9}
	cases := []struct{ low, high, at, least int64 }{
		{0, 6, 3, -2}, {0, 2, 1, 3}, {2, 2, 2, 4}, {4, 6, 5, -2}, {5, 6, 5, -2}, {0, 0, 0, 5}, {3, 5, 3, -2},
	}
	for _, c := range cases {
		at, least := firstLeast(c.low, c.high, func(n int64) int64 { return heights[n] })
		if at != c.at || least != c.least {
			t.Errorf("firstLeast(%d, %d) = %d, %d, want %d, %d", c.low, c.high, at, least, c.at, c.least)
		}
	}
}
