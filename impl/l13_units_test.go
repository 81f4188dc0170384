package impl

import (
	"slices"
	"sync"
	"sync/atomic"
	"testing"
)

// Later chapters convert values at once, too.
func TestConvertedAtOnce(t *testing.T) {
	for count := range 20 {
		values := make([]int, count)
		for i := range values {
			values[i] = i * i
		}
		var finished atomic.Int64
		var others sync.WaitGroup
		others.Add(count)
		got := convertedAtOnce(values, func(v int) string {
			// None of them ends before all have begun, so they have to run at the same time.
			others.Done()
			others.Wait()
			defer finished.Add(1)
			return Decimal(int64(v))
		})
		want := converted(values, func(v int) string { return Decimal(int64(v)) })
		if !slices.Equal(got, want) || finished.Load() != int64(count) {
			t.Errorf("convertedAtOnce of %d gives %q, after %d workers", values, got, finished.Load())
		}
	}
}

// The order of the choices of an hour is that of plans.
func TestSwitchings(t *testing.T) {
	cases := []struct {
		units int
		want  [][]bool
	}{
		{0, [][]bool{{}}}, {1, [][]bool{{false}, {true}}},
		{2, [][]bool{{false, false}, {false, true}, {true, false}, {true, true}}},
	}
	for _, c := range cases {
		if got := switchings(c.units); !slices.EqualFunc(got, c.want, slices.Equal[[]bool]) {
			t.Errorf("switchings(%d) = %v, want %v", c.units, got, c.want)
		}
	}
	most := switchings(MaxUnits)
	if len(most) != 1<<MaxUnits || slices.Contains(most[0], true) || slices.Contains(most[len(most)-1], false) {
		t.Errorf("switchings of most units = %v", most)
	}
}

// A run is not counted any further as soon as its unit may be switched.
func TestRunOfAUnit(t *testing.T) {
	u := Unit{Up: 2, Down: 3}
	cases := []struct {
		before        run
		isOn, mayBeSo bool
		after         run
	}{
		{-3, false, true, -3}, {-3, true, true, 1}, {1, true, true, 2}, {2, true, true, 2}, {2, false, true, -1}, {-1, false, true, -2}, {-2, false, true, -3},
		{1, false, false, 0}, {-1, true, false, 0}, {-2, true, false, 0},
	}
	for _, c := range cases {
		after, mayBeSo := u.next(c.before, c.isOn)
		if mayBeSo != c.mayBeSo || mayBeSo && after != c.after {
			t.Errorf("after the run %d the next one with %v is %d, %v, want %d, %v", c.before, c.isOn, after, mayBeSo, c.after, c.mayBeSo)
		}
	}
	if got := u.longOff(); got != -3 {
		t.Errorf("before the first hour the run is %d", got)
	}
}
