package impl

import (
	"slices"
	"strings"
	"testing"
)

// Several chapters read points, and rely on there being no more than they ask for.
func TestReadPointsUpToALimit(t *testing.T) {
	want := points{{0, 5}, {3, -7}, {4, 0}}
	text := want.String()
	if text != "0:5 3:-7 4:0" {
		t.Errorf("the points are written as %q", text)
	}
	for most := range 5 {
		got, ok := readPoints(text, most)
		if isFew := len(want) <= most; ok != isFew || isFew && !slices.Equal(got, want) || !isFew && got != nil {
			t.Errorf("readPoints(%q, %d) = %v, %v", text, most, got, ok)
		}
	}
	for _, s := range []string{"", " ", "0", "0:", ":0", "0:5 ", " 0:5", "0:5  3:7", "0:5:3", "0:5 x", strings.Repeat("0:5 ", 1000)} {
		if got, ok := readPoints(s, 100); got != nil || ok {
			t.Errorf("readPoints(%q) = %v, %v", s[:min(len(s), 20)], got, ok)
		}
	}
}
