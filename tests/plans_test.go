package tests

import (
	"math/rand"
	"slices"
	"strings"
	"testing"

	"loop.example/g01011/impl"
)

// Which states are plans, what these cost, and how often and for how long units are on.

// statesOf returns the states that are written as a word for each hour, with a digit for each unit.
func statesOf(text string) [][]bool {
	var states [][]bool
	for _, hour := range strings.Fields(text) {
		states = append(states, switchesOf(hour))
	}
	return states
}

// textOf returns states as statesOf takes them.
func textOf(states [][]bool) string {
	var hours []string
	for _, on := range states {
		hour := ""
		for _, isOn := range on {
			hour += map[bool]string{false: "0", true: "1"}[isOn]
		}
		hours = append(hours, hour)
	}
	return strings.Join(hours, " ")
}

// columnOf returns the digits of a unit, one for each hour.
func columnOf(hours []string, unit int) string {
	column := ""
	for _, hour := range hours {
		column += hour[unit : unit+1]
	}
	return column
}

// wasOn reports whether a unit is on in an hour of its column; before the first one, all are off.
func wasOn(column string, hour int) bool {
	return hour >= 0 && column[hour] == '1'
}

// keepsRun looks back from an hour of a column: one that goes off has been on in all Up hours before, and one that goes on
// has been off in all Down hours before.
func keepsRun(u impl.Unit, column string, hour int) bool {
	isOn := wasOn(column, hour)
	if isOn == wasOn(column, hour-1) {
		return true
	}
	hours := u.Up
	if isOn {
		hours = u.Down
	}
	for back := 1; back <= int(hours); back++ {
		if wasOn(column, hour-back) == isOn {
			return false
		}
	}
	return true
}

// exactCost returns what hours, each with a digit for each unit, cost if they are a plan, and whether they are one.
func exactCost(list []impl.Unit, hours []string, demands []int64) (int64, bool) {
	cost := int64(0)
	for hour, demand := range demands {
		_, heat, isMet := exactSharing(list, switchesOf(hours[hour]), demand)
		if !isMet {
			return 0, false
		}
		cost += heat
	}
	for unit, u := range list {
		column := columnOf(hours, unit)
		for hour := range column {
			if !keepsRun(u, column, hour) {
				return 0, false
			}
		}
		cost += startsIn(column) * u.Start
	}
	return cost, true
}

// startsIn counts the starts in a column, in each of which a 1 follows on a 0.
func startsIn(column string) int64 {
	return int64(strings.Count("0"+column, "01"))
}

// checkPlan compares what is told of states with what it should be.
func checkPlan(t *testing.T, list []impl.Unit, text string, demands []int64, wantCost, wantCode int64) {
	t.Helper()
	cost, code := impl.PlanCost(list, statesOf(text), demands)
	if cost != wantCost || code != wantCode {
		t.Errorf("PlanCost(%+v, %s, %d) = %d, %d, want %d, %d", list, text, demands, cost, code, wantCost, wantCode)
	}
	if got := impl.IsPlan(list, statesOf(text), demands); got != (wantCode == impl.OK) {
		t.Errorf("IsPlan(%+v, %s, %d) = %v", list, text, demands, got)
	}
}

// freeUnit makes nothing for demands of 0, so its starts are all that costs something.
func freeUnit(up, down int64) []impl.Unit {
	return []impl.Unit{unitOf(0, 1, 0, 1, up, down)}
}

func TestRunsOfPlans(t *testing.T) {
	cases := []struct {
		up, down int64
		column   string
		starts   int64
		isPlan   bool
	}{
		{1, 1, "0", 0, true}, {1, 1, "1", 1, true}, {3, 3, "0", 0, true}, {3, 3, "000000000000", 0, true}, {3, 3, "111111111111", 1, true},
		{1, 1, "010101010101", 6, true}, {1, 1, "101010101010", 6, true}, {1, 1, "1001101", 3, true},
		// The first start needs no rest, as all units have been off for long.
		{1, 3, "1", 1, true}, {1, 3, "01", 1, true}, {1, 3, "001", 1, true}, {1, 2, "10", 1, true}, {3, 3, "1110", 1, true},
		// A run that the last hour cuts off need not be as long as it has to be.
		{3, 1, "1", 1, true}, {3, 1, "11", 1, true}, {3, 1, "01", 1, true}, {3, 1, "011", 1, true}, {2, 3, "110", 1, true}, {1, 3, "100", 1, true},
		{3, 3, "000000000001", 1, true}, {3, 3, "000000000011", 1, true}, {3, 2, "1110011", 2, true}, {3, 3, "11100", 1, true},
		// Runs that end too early.
		{2, 1, "10", 0, false}, {3, 1, "110", 0, false}, {3, 1, "0110", 0, false}, {3, 1, "1110", 1, true}, {2, 1, "010", 0, false}, {2, 1, "0110", 1, true},
		{2, 1, "11010", 0, false}, {2, 1, "110110", 2, true}, {3, 1, "111011", 2, true}, {3, 1, "1110110", 0, false}, {2, 1, "000000000010", 0, false},
		// Rests that end too early, also after the first of several runs.
		{1, 2, "101", 0, false}, {1, 2, "1001", 2, true}, {1, 3, "1001", 0, false}, {1, 3, "10001", 2, true}, {1, 3, "0101", 0, false}, {1, 3, "01001", 0, false},
		{1, 3, "010001", 2, true}, {1, 2, "1100101", 0, false}, {1, 2, "11001001", 3, true}, {1, 3, "100000000001", 2, true}, {1, 3, "000000001001", 0, false},
		{2, 2, "110011", 2, true}, {2, 2, "11011", 0, false}, {2, 2, "11001", 2, true}, {2, 2, "110010", 0, false}, {3, 3, "111000111000", 2, true},
		{3, 3, "11100011100", 2, true}, {3, 3, "11100111", 0, false}, {3, 3, "1110001100", 0, false}, {3, 3, "011100011", 2, true},
		// What has been long enough once need not be so again.
		{2, 2, "111110000011", 2, true}, {2, 2, "11111000001", 2, true}, {2, 3, "11110010", 0, false}, {3, 2, "11111100110", 0, false},
	}
	for _, c := range cases {
		cost, code := c.starts, int64(impl.OK)
		if !c.isPlan {
			cost, code = 0, impl.ErrState
		}
		checkPlan(t, freeUnit(c.up, c.down), strings.Join(strings.Split(c.column, ""), " "), make([]int64, len(c.column)), cost, code)
	}
}

func TestPlanCost(t *testing.T) {
	boiler, two := []impl.Unit{mainUnit()}, twoUnits()
	cases := []struct {
		list       []impl.Unit
		text       string
		demands    []int64
		cost, code int64
	}{
		{boiler, "1 0 1", []int64{50, 0, 50}, 54000, impl.OK}, {boiler, "1", []int64{50}, 27000, impl.OK}, {boiler, "0", []int64{0}, 0, impl.OK},
		{boiler, "1 1 1", []int64{50, 10, 50}, 57000, impl.OK}, {boiler, "0 0 1", []int64{0, 0, 10}, 7000, impl.OK}, {boiler, "1 1 1", []int64{50, 0, 50}, 0, impl.ErrState},
		{boiler, "1 0 1", []int64{50, 1, 50}, 0, impl.ErrState}, {boiler, "0", []int64{1}, 0, impl.ErrState}, {boiler, "1", []int64{9}, 0, impl.ErrState},
		{boiler, "1", []int64{10}, 7000, impl.OK}, {boiler, "1", []int64{100}, 52000, impl.OK}, {boiler, "1", []int64{101}, 0, impl.ErrState},
		{two, "01 11 01", []int64{50, 120, 30}, 79000, impl.OK}, {two, "11 10 11", []int64{50, 70, 50}, 0, impl.ErrState}, {two, "11 10", []int64{50, 50}, 0, impl.ErrState},
		{two, "11 11 10", []int64{50, 70, 50}, 72000, impl.OK}, {two, "01 11 10", []int64{50, 70, 50}, 70000, impl.OK}, {two, "01 10", []int64{50, 50}, 0, impl.ErrState},
		// One that is off in the last hour only, or on in it only.
		{two, "11 11", []int64{30, 30}, 29000, impl.OK}, {two, "11 01", []int64{30, 30}, 27000, impl.OK}, {two, "10 11", []int64{30, 30}, 33000, impl.OK},
		// Each hour counts, the first and the last one too.
		{two, "01 01 01", []int64{61, 60, 60}, 0, impl.ErrState}, {two, "01 01 01", []int64{60, 61, 60}, 0, impl.ErrState}, {two, "01 01 01", []int64{60, 60, 61}, 0, impl.ErrState},
		{two, "01 01 01", []int64{60, 60, 60}, 59000, impl.OK}, {two, "01 01 01", []int64{19, 60, 60}, 0, impl.ErrState}, {two, "01 01 01", []int64{60, 60, 19}, 0, impl.ErrState},
		{two, "00 00 01", []int64{0, 0, 20}, 11000, impl.OK}, {two, "00 00 00", []int64{0, 0, 0}, 0, impl.OK}, {two, "10 01 01", []int64{20, 20, 20}, 29000, impl.OK},
	}
	for _, c := range cases {
		checkPlan(t, c.list, c.text, c.demands, c.cost, c.code)
	}
}

func TestPlanCostAtItsLimits(t *testing.T) {
	all := strings.Repeat("1111 ", impl.MaxHours)
	const heat, starts = impl.MaxHours * mostDemand * impl.MaxPrice, impl.MaxUnits * impl.MaxStart
	checkPlan(t, mostUnits(), all, slices.Repeat([]int64{mostDemand}, impl.MaxHours), heat+starts, impl.OK)
	checkPlan(t, mostUnits(), strings.Repeat("0000 ", impl.MaxHours), make([]int64, impl.MaxHours), 0, impl.OK)
	checkPlan(t, mostUnits(), all, make([]int64, impl.MaxHours), 0, impl.ErrState)
	restless := unitsOf(slices.Repeat([]impl.Unit{unitOf(0, impl.MaxPower, impl.MaxPrice, impl.MaxStart, 1, 1)}, impl.MaxUnits)...)
	checkPlan(t, restless, strings.Repeat("1111 0000 ", impl.MaxHours/2), make([]int64, impl.MaxHours), impl.MaxHours/2*starts, impl.OK)
}

// randomHours are hours of units that are switched seldom, so that they are plans often.
func randomHours(random *rand.Rand, units, hours int) []string {
	every := allSwitches(units)
	list := []string{every[random.Intn(len(every))]}
	for len(list) < hours {
		hour := list[len(list)-1]
		if random.Intn(3) == 0 {
			hour = every[random.Intn(len(every))]
		}
		list = append(list, hour)
	}
	return list
}

// demandsFor are demands that the units of each hour meet, or nearly so.
func demandsFor(random *rand.Rand, list []impl.Unit, hours []string) []int64 {
	var demands []int64
	for _, hour := range hours {
		least, most := limitsOf(list, switchesOf(hour))
		demand := least + random.Int63n(most-least+1)
		if random.Intn(20) == 0 {
			demand = most + 1
		}
		demands = append(demands, demand)
	}
	return demands
}

func TestAnyPlans(t *testing.T) {
	random := rand.New(rand.NewSource(144))
	plans := 0
	for range 4000 {
		list := randomUnits(random, 1+random.Intn(impl.MaxUnits), 6)
		hours := randomHours(random, len(list), 1+random.Intn(impl.MaxHours))
		demands := demandsFor(random, list, hours)
		cost, isPlan := exactCost(list, hours, demands)
		code := int64(impl.ErrState)
		if isPlan {
			code = impl.OK
			plans++
		}
		checkPlan(t, list, strings.Join(hours, " "), demands, cost, code)
	}
	if plans < 500 || plans > 3500 {
		t.Errorf("%d of 4000 states are plans", plans)
	}
}

// checkCounts compares the starts and hours of units with what they should be.
func checkCounts(t *testing.T, list []impl.Unit, text string, wantStarts, wantHours []int64) {
	t.Helper()
	starts, code := impl.StartsOf(list, statesOf(text))
	checkIndices(t, starts, code, wantStarts, "StartsOf", text)
	hours, code := impl.HoursOf(list, statesOf(text))
	checkIndices(t, hours, code, wantHours, "HoursOf", text)
}

func TestStartsAndHours(t *testing.T) {
	boiler, two, four := []impl.Unit{mainUnit()}, twoUnits(), mostUnits()
	cases := []struct {
		list          []impl.Unit
		text          string
		starts, hours []int64
	}{
		{boiler, "1 0 1", []int64{2}, []int64{2}}, {two, "01 11 01", []int64{1, 1}, []int64{1, 3}}, {boiler, "0", []int64{0}, []int64{0}}, {boiler, "1", []int64{1}, []int64{1}},
		{boiler, "1 1 1", []int64{1}, []int64{3}}, {boiler, "1 0 0", []int64{1}, []int64{1}}, {boiler, "0 0 1", []int64{1}, []int64{1}}, {boiler, "0 1 1 0", []int64{1}, []int64{2}},
		// These are no plans, since runs and rests end too early.
		{two, "01 10 01 10", []int64{2, 2}, []int64{2, 2}}, {four, "1111 0000 1111", []int64{2, 2, 2, 2}, []int64{2, 2, 2, 2}},
		{four, "1000 0100 0010 0001", []int64{1, 1, 1, 1}, []int64{1, 1, 1, 1}}, {four, "0101 1101 0111 1110", []int64{2, 1, 1, 1}, []int64{2, 4, 2, 3}},
		{boiler, strings.Repeat("1 0 ", impl.MaxHours/2), []int64{impl.MaxHours / 2}, []int64{impl.MaxHours / 2}},
		{boiler, strings.Repeat("0 1 ", impl.MaxHours/2), []int64{impl.MaxHours / 2}, []int64{impl.MaxHours / 2}},
		{four, strings.Repeat("1010 ", impl.MaxHours), []int64{1, 0, 1, 0}, []int64{impl.MaxHours, 0, impl.MaxHours, 0}},
	}
	for _, c := range cases {
		checkCounts(t, c.list, c.text, c.starts, c.hours)
	}
}

func TestStartsAndHoursOfAnyStates(t *testing.T) {
	random := rand.New(rand.NewSource(145))
	for range 1000 {
		list := randomUnits(random, 1+random.Intn(impl.MaxUnits), 6)
		hours := randomHours(random, len(list), 1+random.Intn(impl.MaxHours))
		var starts, counts []int64
		for unit := range list {
			column := columnOf(hours, unit)
			starts, counts = append(starts, startsIn(column)), append(counts, int64(strings.Count(column, "1")))
		}
		checkCounts(t, list, strings.Join(hours, " "), starts, counts)
	}
}
