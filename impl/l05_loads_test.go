package impl

import (
	"slices"
	"testing"
)

// Later chapters take more than the first place.
func TestGreatestFirst(t *testing.T) {
	cases := []struct {
		values []int64
		want   []int
	}{
		{nil, nil}, {[]int64{7}, []int{0}}, {[]int64{1, 2}, []int{1, 0}}, {[]int64{2, 2, 2}, []int{0, 1, 2}},
		{[]int64{-1, 3, -5, 3, 0}, []int{1, 3, 4, 0, 2}}, {[]int64{MaxValue, -MaxValue, MaxValue + 1}, []int{2, 0, 1}},
	}
	for _, c := range cases {
		before := slices.Clone(c.values)
		if got := greatestFirst(c.values); !slices.Equal(got, c.want) || !slices.Equal(c.values, before) {
			t.Errorf("greatestFirst(%d) = %d, want %d", before, got, c.want)
		}
	}
	many := slices.Repeat([]int64{1, 2, 1}, 30)
	places := greatestFirst(many)
	if !slices.IsSorted(places[:30]) || !slices.IsSorted(places[30:]) || many[places[29]] != 2 {
		t.Errorf("greatestFirst of many equal values = %d", places)
	}
}

func TestGreatestOf(t *testing.T) {
	values := []int64{-1, 3, -5, 3, 0}
	for count, want := range [][]int64{nil, {1}, {1, 3}, {1, 3, 4}, {0, 1, 3, 4}, {0, 1, 2, 3, 4}} {
		if got := greatestOf(values, int64(count)); !slices.Equal(got, want) {
			t.Errorf("greatestOf(%d, %d) = %d, want %d", values, count, got, want)
		}
	}
	if got := greatestOf(nil, 0); len(got) != 0 {
		t.Errorf("the greatest of no values are %d", got)
	}
}

func TestAsIndices(t *testing.T) {
	for _, places := range [][]int{nil, {0}, {3, 1, 2}} {
		got := asIndices(places)
		if len(got) != len(places) {
			t.Errorf("asIndices(%d) = %d", places, got)
		}
		for i, index := range got {
			if index != int64(places[i]) {
				t.Errorf("asIndices(%d) = %d", places, got)
			}
		}
	}
}
