package impl

import (
	"slices"
	"testing"
)

// Several chapters write an Id and numbers in the same way.
func TestReadNamed(t *testing.T) {
	for _, numbers := range [][]int64{{7}, {1, -2, 3}, {0, 0}} {
		text := namedText("a", numbers...)
		for count := range 5 {
			id, got, ok := readNamed(text, count)
			if ok != (count == len(numbers)) || ok && (id != "a" || !slices.Equal(got, numbers)) {
				t.Errorf("readNamed(%q, %d) = %q, %d, %v", text, count, id, got, ok)
			}
		}
	}
	if got := namedText("pipe", 0, 1, 500); got != "pipe 0,1,500" {
		t.Errorf("an Id and numbers are written as %q", got)
	}
	for _, s := range []string{"", "a", "a ", "a  7", "a 7 ", "a 07", "a 7,", "a x"} {
		if id, got, ok := readNamed(s, 1); ok {
			t.Errorf("readNamed(%q) = %q, %d, true", s, id, got)
		}
	}
}
