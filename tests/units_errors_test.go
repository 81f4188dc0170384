package tests

import (
	"slices"
	"strings"
	"testing"

	"loop.example/g01011/impl"
)

// Which errors the functions of chapter 13 return, and in which order.

// unitFigures are what these functions take beside units.
type unitFigures struct {
	on      []bool
	demand  int64
	states  [][]bool
	demands []int64
}

// unitCall is a function of units that takes some of the figures.
type unitCall struct {
	name, takes string
	of          func(list []impl.Unit, f unitFigures) outcome
}

func unitCalls() []unitCall {
	listed := func(values []int64, code int64) outcome { return outcome{values, code} }
	return []unitCall{
		{"MeritOrder", "", func(list []impl.Unit, _ unitFigures) outcome { return listed(impl.MeritOrder(list)) }},
		{"ShareDemand", "demand on", func(list []impl.Unit, f unitFigures) outcome {
			powers, cost, code := impl.ShareDemand(list, f.on, f.demand)
			return outcome{append(slices.Clone(powers), cost), code}
		}},
		{"PlanCost", "states demands", func(list []impl.Unit, f unitFigures) outcome {
			cost, code := impl.PlanCost(list, f.states, f.demands)
			return outcome{[]int64{cost}, code}
		}},
		{"CheapestPlan", "demands", func(list []impl.Unit, f unitFigures) outcome {
			states, cost, code := impl.CheapestPlan(list, f.demands)
			return outcome{append(digitsOf(states), cost), code}
		}},
		{"StartsOf", "states", func(list []impl.Unit, f unitFigures) outcome { return listed(impl.StartsOf(list, f.states)) }},
		{"HoursOf", "states", func(list []impl.Unit, f unitFigures) outcome { return listed(impl.HoursOf(list, f.states)) }},
	}
}

func (c unitCall) doesTake(name string) bool {
	return slices.Contains(strings.Fields(c.takes), name)
}

// digitsOf returns numbers that are all 0 only for no states.
func digitsOf(states [][]bool) []int64 {
	numbers := []int64{int64(len(states))}
	for _, on := range states {
		for _, isOn := range on {
			numbers = append(numbers, map[bool]int64{false: 0, true: 1}[isOn])
		}
	}
	return numbers
}

// ordinaryUnits are figures of which all functions make something: no unit is on, and nothing is demanded.
func ordinaryUnits(units int) unitFigures {
	return unitFigures{make([]bool, units), 0, [][]bool{make([]bool, units), make([]bool, units)}, []int64{0, 0}}
}

// stillHours are hours in which no unit is on.
func stillHours(hours, units int) [][]bool {
	var states [][]bool
	for range hours {
		states = append(states, make([]bool, units))
	}
	return states
}

// wrongSwitches are lists that have not one for each unit.
func wrongSwitches(units int) [][]bool {
	return [][]bool{nil, make([]bool, units-1), make([]bool, units+1), slices.Repeat([]bool{true}, units+1), make([]bool, 2*units), make([]bool, 100000)}
}

// wrongStates are no states for some units.
func wrongStates(units int) [][][]bool {
	lists := [][][]bool{nil, {}, stillHours(impl.MaxHours+1, units), stillHours(2*impl.MaxHours, units), make([][]bool, 100000)}
	for _, on := range wrongSwitches(units) {
		for hour := range 3 {
			states := stillHours(3, units)
			states[hour] = on
			lists = append(lists, states)
		}
		full := stillHours(impl.MaxHours, units)
		full[impl.MaxHours-1] = on
		lists = append(lists, [][]bool{on}, full)
	}
	return lists
}

// wrongDemands are no demands of hours.
func wrongDemands() [][]int64 {
	lists := [][]int64{nil, {}, make([]int64, impl.MaxHours+1), make([]int64, 2*impl.MaxHours), make([]int64, 100000)}
	for _, hours := range []int{1, 3, impl.MaxHours} {
		lists = append(lists, wrongAt(make([]int64, hours), 0, mostDemand)...)
	}
	return lists
}

// wrongUnitFigures are figures with one thing not as stated, named by it, for functions that return ErrOrder then.
func wrongUnitFigures(units int) map[string][]unitFigures {
	wrong := make(map[string][]unitFigures)
	add := func(name string, set func(*unitFigures)) {
		f := ordinaryUnits(units)
		set(&f)
		wrong[name] = append(wrong[name], f)
	}
	for _, on := range wrongSwitches(units) {
		add("on", func(f *unitFigures) { f.on = on })
	}
	for _, states := range wrongStates(units) {
		add("states", func(f *unitFigures) { f.states = states })
	}
	for _, demands := range wrongDemands() {
		add("demands", func(f *unitFigures) { f.demands = demands })
	}
	return wrong
}

// worstUnitFigures have nothing that is as stated.
func worstUnitFigures() unitFigures {
	return unitFigures{make([]bool, 9), mostDemand + 1, nil, []int64{-1}}
}

func TestUnitsRefuseInvalidOnesFirst(t *testing.T) {
	for _, list := range invalidUnitLists() {
		shown, units := list[:min(len(list), 10)], len(list)
		for _, c := range unitCalls() {
			for _, f := range []unitFigures{{}, ordinaryUnits(units), worstUnitFigures(), {make([]bool, units), 1, stillHours(1, units), []int64{mostDemand}}} {
				checkFailed(t, c.of(list, f), impl.ErrInvalid, c.name, shown)
			}
		}
		if impl.IsPlan(list, stillHours(2, units), []int64{0, 0}) {
			t.Errorf("IsPlan(%+v) = true", shown)
		}
	}
}

func TestUnitsRefuseDemandsOutOfRange(t *testing.T) {
	for _, list := range validUnitLists() {
		for _, demand := range append(beyond(0, mostDemand), -2, mostDemand+2) {
			f := ordinaryUnits(len(list))
			f.demand = demand
			for _, c := range unitCalls() {
				if c.doesTake("demand") {
					checkFailed(t, c.of(list, f), impl.ErrRange, c.name, list, f)
				}
			}
			// The range comes before the lists, and these before what they tell.
			for _, on := range append(wrongSwitches(len(list)), slices.Repeat([]bool{true}, len(list))) {
				got, cost, code := impl.ShareDemand(list, on, demand)
				checkFailed(t, outcome{append(got, cost), code}, impl.ErrRange, "ShareDemand", list, len(on), demand)
			}
		}
		for _, on := range wrongSwitches(len(list)) {
			for _, demand := range []int64{0, 1, mostDemand} {
				got, cost, code := impl.ShareDemand(list, on, demand)
				checkFailed(t, outcome{append(got, cost), code}, impl.ErrOrder, "ShareDemand", list, len(on), demand)
			}
		}
	}
}

func TestUnitsRefuseListsThatAreNotAsStated(t *testing.T) {
	for _, list := range validUnitLists() {
		for _, c := range unitCalls() {
			ordinary := c.of(list, ordinaryUnits(len(list)))
			if ordinary.code != impl.OK {
				t.Errorf("%s(%+v) gives %d", c.name, list, ordinary.code)
			}
			for name, wrong := range wrongUnitFigures(len(list)) {
				for _, f := range wrong {
					if c.doesTake(name) {
						checkFailed(t, c.of(list, f), impl.ErrOrder, c.name, list, name)
						continue
					}
					// What a function does not take makes no difference.
					if got := c.of(list, f); got.code != impl.OK || !slices.Equal(got.values, ordinary.values) {
						t.Errorf("%s(%+v) = %+v with other %s, without %+v", c.name, list, got, name, ordinary)
					}
				}
			}
		}
	}
}

func TestPlansRefuseListsThatAreNotAsStated(t *testing.T) {
	for _, list := range validUnitLists() {
		check := func(states [][]bool, demands []int64) {
			t.Helper()
			cost, code := impl.PlanCost(list, states, demands)
			checkFailed(t, outcome{[]int64{cost}, code}, impl.ErrOrder, "PlanCost", list, len(states), len(demands))
			if impl.IsPlan(list, states, demands) {
				t.Errorf("IsPlan(%+v, %v, %d) = true", list, states, demands)
			}
		}
		// With as many demands as hours, all that is wrong is something else.
		for _, states := range wrongStates(len(list)) {
			check(states, make([]int64, len(states)))
			check(states, make([]int64, 1))
		}
		for _, demands := range wrongDemands() {
			check(stillHours(len(demands), len(list)), demands)
			check(stillHours(1, len(list)), demands)
		}
		for hours := 1; hours <= impl.MaxHours; hours++ {
			for _, others := range []int{hours - 1, hours + 1, 1, impl.MaxHours} {
				if others != hours {
					check(stillHours(hours, len(list)), make([]int64, others))
					// Even if the states are no plan for the demands that are there.
					check(stillHours(hours, len(list)), slices.Repeat([]int64{mostDemand}, others))
				}
			}
		}
	}
}

// States that are as stated need not be a plan, which is told of last.
func TestUnitsTellOfPlansLast(t *testing.T) {
	list := unitsOf(unitOf(10, 100, 1, 1, 3, 3), unitOf(10, 100, 1, 1, 3, 3))
	for _, c := range []struct {
		text    string
		demands []int64
	}{
		{"10 01", []int64{50, 50}}, {"00", []int64{1}}, {"11", []int64{0}}, {"11", []int64{mostDemand}}, {"01 01 01 00 01", []int64{50, 50, 50, 0, 50}},
	} {
		cost, code := impl.PlanCost(list, statesOf(c.text), c.demands)
		checkFailed(t, outcome{[]int64{cost}, code}, impl.ErrState, "PlanCost", c.text, c.demands)
		if impl.IsPlan(list, statesOf(c.text), c.demands) {
			t.Errorf("IsPlan(%s, %d) = true", c.text, c.demands)
		}
		for _, count := range []func([]impl.Unit, [][]bool) ([]int64, int64){impl.StartsOf, impl.HoursOf} {
			if counts, code := count(list, statesOf(c.text)); len(counts) != 2 || code != impl.OK {
				t.Errorf("the counts of %s are %d, %d", c.text, counts, code)
			}
		}
	}
	states, cost, code := impl.CheapestPlan(list, []int64{50, 9})
	checkFailed(t, outcome{append(digitsOf(states), cost), code}, impl.ErrNotFound, "CheapestPlan", list)
	powers, cost, code := impl.ShareDemand(list, []bool{true, true}, 19)
	checkFailed(t, outcome{append(powers, cost), code}, impl.ErrNotFound, "ShareDemand", list)
}

// Numbers and lists just at their limits are taken by all functions.
func TestUnitsTakeTheirLimits(t *testing.T) {
	for _, list := range validUnitLists() {
		units := len(list)
		for _, f := range []unitFigures{
			{make([]bool, units), 0, stillHours(1, units), []int64{0}}, {make([]bool, units), 0, stillHours(impl.MaxHours, units), make([]int64, impl.MaxHours)},
		} {
			for _, c := range unitCalls() {
				if got := c.of(list, f); got.code != impl.OK {
					t.Errorf("%s(%+v, %+v) gives %d", c.name, list, f, got.code)
				}
			}
			if !impl.IsPlan(list, f.states, f.demands) {
				t.Errorf("IsPlan(%+v, %+v) = false", list, f)
			}
		}
		// The greatest demand is one, though only the greatest units meet it.
		_, _, code := impl.ShareDemand(list, slices.Repeat([]bool{true}, units), mostDemand)
		_, _, planCode := impl.CheapestPlan(list, []int64{mostDemand})
		want := int64(impl.ErrNotFound)
		if _, most := limitsOf(list, slices.Repeat([]bool{true}, units)); most == mostDemand {
			want = impl.OK
		}
		if code != want || planCode != want {
			t.Errorf("the greatest demand of %+v gives %d, %d, want %d", list, code, planCode, want)
		}
	}
}
