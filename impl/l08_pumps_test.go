package impl

import (
	"slices"
	"testing"
)

// Several chapters search sets of indices, and rely on the order in which they are visited.
func TestSearchSetsInOrder(t *testing.T) {
	cases := []struct {
		costs        []int64
		money, nodes int64
		want         []indexSet
	}{
		{nil, 0, 0, []indexSet{0}}, {[]int64{1}, 0, 1, []indexSet{0}}, {[]int64{1}, 1, 2, []indexSet{1, 0}},
		{[]int64{0, 0}, 0, 6, []indexSet{3, 1, 2, 0}}, {[]int64{5, 5}, 5, 5, []indexSet{1, 2, 0}},
		{[]int64{2, 1, 1}, 2, 10, []indexSet{1, 6, 2, 4, 0}},
	}
	for _, c := range cases {
		for budget := int64(0); budget <= c.nodes+1; budget++ {
			var visited []indexSet
			code := searchSets(c.costs, c.money, budget, func(set indexSet) { visited = append(visited, set) })
			switch {
			case budget >= c.nodes:
				if code != OK || !slices.Equal(visited, c.want) {
					t.Errorf("the sets of %d with %d and the budget %d are %b, %d, want %b", c.costs, c.money, budget, visited, code, c.want)
				}
			// The search ends at once, so only the first sets have been visited.
			case code != ErrFull || len(visited) >= len(c.want) || !slices.Equal(visited, c.want[:len(visited)]):
				t.Errorf("the sets of %d with %d and the budget %d are %b, %d", c.costs, c.money, budget, visited, code)
			}
		}
	}
}

func TestBestSetIsTheFirstOne(t *testing.T) {
	b := bestSet{set: 0b110, value: 5}
	steps := []struct {
		set, want indexSet
		value     int64
	}{
		{0b111, 0b110, 6}, {0b100, 0b110, 5}, {0b1110, 0b110, 5}, {0b10, 0b10, 5}, {0b1001, 0b1001, 5}, {0b101, 0b101, 5}, {0b11, 0b11, 5}, {0b1, 0b1, 5},
		{0, 0, 5}, {0b1, 0, 5}, {0b1000, 0b1000, 4}, {0, 0b1000, 5},
	}
	for _, s := range steps {
		if b.offer(s.set, s.value); b.set != s.want {
			t.Errorf("after %b with %d the best set is %b, want %b", s.set, s.value, b.set, s.want)
		}
	}
}
