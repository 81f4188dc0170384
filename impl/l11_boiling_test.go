package impl

import "testing"

// kelvin shows that numbers of any type are searched.
type kelvin int64

// Later chapters look for the last number that is possible, too.
func TestLastWith(t *testing.T) {
	for low := kelvin(-3); low <= 3; low++ {
		for high := low - 1; high <= 4; high++ {
			for last := low - 1; last <= high; last++ {
				tried := make(map[kelvin]bool)
				got := lastWith(low, high, func(k kelvin) bool {
					tried[k] = true
					return k <= last
				})
				if got != last {
					t.Errorf("lastWith(%d, %d) up to %d = %d", low, high, last, got)
				}
				for k := range tried {
					if !within(low, high, k) {
						t.Errorf("lastWith(%d, %d) has tried %d", low, high, k)
					}
				}
			}
		}
	}
}
