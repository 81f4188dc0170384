package tests

import (
	"fmt"
	"math/rand"
	"slices"
	"strings"
	"testing"

	"loop.example/g01011/impl"
)

// Promise 14: which plan is the cheapest one.

// checkCheapestPlan compares the cheapest plan with what it should be; the empty text if there is none.
func checkCheapestPlan(t *testing.T, list []impl.Unit, demands []int64, want string, wantCost int64) {
	t.Helper()
	wantCode := int64(impl.OK)
	if want == "" {
		wantCode = impl.ErrNotFound
	}
	states, cost, code := impl.CheapestPlan(list, demands)
	if textOf(states) != want || cost != wantCost || code != wantCode {
		t.Errorf("CheapestPlan(%+v, %d) = %s, %d, %d, want %s, %d, %d", list, demands, textOf(states), cost, code, want, wantCost, wantCode)
	}
	if want != "" {
		checkPlan(t, list, want, demands, wantCost, impl.OK)
	}
}

func TestCheapestPlanOfOneUnit(t *testing.T) {
	costly, idle := unitOf(10, 100, 500, 2000, 1, 1), unitOf(0, 100, 500, 2000, 1, 1)
	cases := []struct {
		u       impl.Unit
		demands []int64
		want    string
		cost    int64
	}{
		{costly, []int64{50, 0, 50}, "1 0 1", 54000}, {costly, []int64{0}, "0", 0}, {costly, []int64{10}, "1", 7000}, {costly, []int64{9}, "", 0},
		{costly, []int64{100}, "1", 52000}, {costly, []int64{101}, "", 0}, {costly, []int64{50, 9, 50}, "", 0}, {costly, []int64{0, 0, 10}, "0 0 1", 7000},
		{costly, []int64{10, 0, 0}, "1 0 0", 7000}, {costly, []int64{50, 101}, "", 0}, {costly, []int64{101, 50}, "", 0}, {costly, []int64{mostDemand}, "", 0},
		// If it may make nothing, it stays on, which saves a start, but not longer than it has to.
		{idle, []int64{50, 0, 50}, "1 1 1", 52000}, {idle, []int64{0, 50, 0}, "0 1 0", 27000}, {idle, []int64{0, 0, 0}, "0 0 0", 0}, {idle, []int64{1, 0, 0, 1}, "1 1 1 1", 3000},
		// Starts that cost nothing save nothing, so what is off comes first.
		{unitOf(0, 100, 500, 0, 1, 1), []int64{50, 0, 50}, "1 0 1", 50000}, {unitOf(0, 100, 0, 0, 1, 1), []int64{1, 0, 0, 1, 0}, "1 0 0 1 0", 0},
		// Up: it stays on if it may make nothing, up to the last hour at most.
		{unitOf(0, 9, 1, 5, 2, 1), []int64{3, 0, 0}, "1 1 0", 8}, {unitOf(0, 9, 1, 5, 3, 1), []int64{3, 0, 0, 0}, "1 1 1 0", 8}, {unitOf(0, 9, 1, 5, 3, 1), []int64{0, 0, 3}, "0 0 1", 8},
		{unitOf(1, 9, 1, 5, 2, 1), []int64{3, 0}, "", 0}, {unitOf(1, 9, 1, 5, 3, 3), []int64{3}, "1", 8}, {unitOf(1, 9, 1, 5, 3, 3), []int64{0, 3, 3}, "0 1 1", 11},
		{unitOf(1, 9, 1, 5, 3, 1), []int64{3, 3, 0}, "", 0}, {unitOf(1, 9, 1, 5, 2, 1), []int64{3, 3, 0}, "1 1 0", 11}, {unitOf(1, 9, 1, 5, 3, 1), []int64{0, 3, 3, 0}, "", 0},
		// With a start that costs nothing it might begin earlier, but then it would not be off as early as it can.
		{unitOf(0, 9, 1, 0, 3, 1), []int64{0, 0, 3, 0}, "0 0 1 1", 3}, {unitOf(0, 9, 1, 0, 2, 1), []int64{0, 3, 0, 0}, "0 1 1 0", 3},
		// Down: it stays on if it may make nothing, even if its starts cost nothing; the first one needs no rest.
		{unitOf(0, 9, 1, 0, 1, 2), []int64{3, 0, 3}, "1 1 1", 6}, {unitOf(0, 9, 1, 0, 1, 2), []int64{3, 0, 0, 3}, "1 0 0 1", 6}, {unitOf(0, 9, 1, 0, 1, 3), []int64{3, 0, 0, 3}, "1 1 1 1", 6},
		{unitOf(1, 9, 1, 0, 1, 2), []int64{3, 0, 3}, "", 0}, {unitOf(1, 9, 1, 0, 1, 2), []int64{3, 0, 0, 3}, "1 0 0 1", 6}, {unitOf(1, 9, 1, 0, 1, 3), []int64{3, 0, 0, 3}, "", 0},
		{unitOf(1, 9, 1, 0, 1, 3), []int64{3}, "1", 3}, {unitOf(1, 9, 1, 0, 3, 3), []int64{0, 0, 0, 3}, "0 0 0 1", 3}, {unitOf(1, 9, 1, 0, 1, 3), []int64{0, 3, 0}, "0 1 0", 3},
		{unitOf(0, 9, 1, 1, 3, 3), []int64{3, 0, 0, 0, 0, 0, 3}, "1 1 1 1 1 1 1", 7}, {unitOf(0, 9, 1, 0, 3, 3), []int64{3, 0, 0, 0, 0, 0, 3}, "1 1 1 0 0 0 1", 6},
	}
	for _, c := range cases {
		checkCheapestPlan(t, []impl.Unit{c.u}, c.demands, c.want, c.cost)
	}
}

func TestCheapestPlanOfSeveralUnits(t *testing.T) {
	two, same := twoUnits(), unitsOf(unitOf(0, 10, 2, 3, 1, 1), unitOf(0, 10, 2, 3, 1, 1))
	cases := []struct {
		list    []impl.Unit
		demands []int64
		want    string
		cost    int64
	}{
		{two, []int64{50, 120, 30}, "01 11 01", 79000}, {two, []int64{5}, "", 0}, {two, []int64{0}, "00", 0}, {two, []int64{160}, "11", 75000}, {two, []int64{161}, "", 0},
		{two, []int64{160, 161}, "", 0}, {two, []int64{15}, "10", 9500}, {two, []int64{15, 20}, "10 10", 19500}, {two, []int64{15, 50, 50}, "10 01 01", 44500},
		// Of plans that cost the same, in the first hour that differs the first unit is off, or the second one if both have the first one on.
		{same, []int64{5}, "01", 13}, {same, []int64{5, 5}, "01 01", 23}, {same, []int64{5, 15, 5}, "01 11 01", 56}, {same, []int64{15, 5}, "11 01", 46}, {same, []int64{0, 5, 0}, "00 01 00", 13},
		{same, []int64{10, 0, 10}, "01 01 01", 43}, {same, []int64{20, 0, 20}, "11 11 11", 86}, {same, []int64{20, 0, 10}, "11 01 01", 66},
		{pricedUnits(5, 5, 5, 5), []int64{50}, "0001", 2250}, {pricedUnits(5, 5, 5, 5), []int64{150}, "0011", 4750}, {pricedUnits(5, 5, 4, 5), []int64{50}, "0010", 2200},
		{pricedUnits(5, 4, 5), []int64{150, 50}, "011 010", 4650 + 200}, {pricedUnits(4, 5, 5), []int64{150, 50}, "101 100", 4650 + 200},
		// A dear unit that has been started already is cheaper than the start of another one.
		{unitsOf(unitOf(0, 10, 3, 0, 1, 1), unitOf(0, 10, 2, 9, 1, 1)), []int64{4, 4}, "10 10", 24}, {unitsOf(unitOf(0, 10, 3, 0, 1, 1), unitOf(0, 10, 2, 9, 1, 1)), []int64{4, 6}, "01 01", 29},
		{unitsOf(unitOf(0, 10, 3, 0, 1, 1), unitOf(0, 10, 2, 9, 1, 1)), []int64{4, 5}, "01 01", 27}, {unitsOf(unitOf(0, 10, 3, 0, 1, 1), unitOf(0, 10, 2, 8, 1, 1)), []int64{4, 4}, "01 01", 24},
		// It pays to begin with the dearer one, as the cheap one could not go off when it has to, or come back.
		{unitsOf(unitOf(5, 10, 9, 0, 1, 1), unitOf(5, 10, 1, 0, 3, 1)), []int64{5, 5, 0}, "10 10 00", 90}, {unitsOf(unitOf(5, 10, 9, 0, 1, 1), unitOf(5, 10, 1, 0, 3, 1)), []int64{5, 5, 5, 0}, "01 01 01 00", 15},
		{unitsOf(unitOf(5, 10, 9, 0, 1, 1), unitOf(5, 10, 1, 0, 1, 3)), []int64{5, 0, 5, 5}, "10 00 01 01", 55}, {unitsOf(unitOf(5, 10, 9, 0, 1, 1), unitOf(5, 10, 1, 0, 1, 3)), []int64{5, 0, 0, 5}, "01 00 00 10", 50},
		{unitsOf(unitOf(5, 10, 9, 0, 1, 1), unitOf(5, 10, 1, 0, 1, 3)), []int64{5, 0, 0, 0, 5}, "01 00 00 00 01", 10},
		// A unit that has to stay on takes the place of a cheaper one.
		{unitsOf(unitOf(6, 9, 5, 0, 2, 1), unitOf(1, 4, 1, 0, 1, 1)), []int64{9, 4}, "", 0}, {unitsOf(unitOf(4, 9, 5, 0, 2, 1), unitOf(1, 4, 1, 0, 1, 1)), []int64{9, 4}, "11 10", 49},
		{unitsOf(unitOf(0, 9, 5, 0, 2, 1), unitOf(1, 4, 1, 0, 1, 1)), []int64{9, 4}, "11 11", 33},
	}
	for _, c := range cases {
		checkCheapestPlan(t, c.list, c.demands, c.want, c.cost)
	}
}

func TestCheapestPlanAtItsLimits(t *testing.T) {
	all := strings.TrimSpace(strings.Repeat("1111 ", impl.MaxHours))
	none := strings.TrimSpace(strings.Repeat("0000 ", impl.MaxHours))
	most := slices.Repeat([]int64{mostDemand}, impl.MaxHours)
	checkCheapestPlan(t, mostUnits(), most, all, impl.MaxHours*mostDemand*impl.MaxPrice+impl.MaxUnits*impl.MaxStart)
	checkCheapestPlan(t, mostUnits(), make([]int64, impl.MaxHours), none, 0)
	for hour := range impl.MaxHours {
		almost := slices.Clone(most)
		almost[hour]--
		checkCheapestPlan(t, mostUnits(), almost, "", 0)
		// One of them would be off for an hour only, which none may.
		almost[hour] = mostDemand - impl.MaxPower
		if hour > 0 && hour < impl.MaxHours-1 {
			checkCheapestPlan(t, mostUnits(), almost, "", 0)
		}
	}
	late := slices.Clone(most)
	late[0] -= impl.MaxPower
	// Only in the first hour may one of them be off, as none has been on before.
	checkCheapestPlan(t, mostUnits(), late, "0111"+all[4:], (impl.MaxHours*mostDemand-impl.MaxPower)*impl.MaxPrice+impl.MaxUnits*impl.MaxStart)
	early := slices.Clone(most)
	early[impl.MaxHours-1] = 0
	checkCheapestPlan(t, mostUnits(), early, all[:len(all)-4]+"0000", (impl.MaxHours-1)*mostDemand*impl.MaxPrice+impl.MaxUnits*impl.MaxStart)
}

// exactCheapestPlan tries all states in lexicographic order, and keeps the first plan with the least cost.
func exactCheapestPlan(list []impl.Unit, demands []int64) (string, int64) {
	best, least := "", int64(0)
	for _, digits := range allSwitches(len(list) * len(demands)) {
		var hours []string
		for hour := range demands {
			hours = append(hours, digits[hour*len(list):(hour+1)*len(list)])
		}
		if cost, isPlan := exactCost(list, hours, demands); isPlan && (best == "" || cost < least) {
			best, least = strings.Join(hours, " "), cost
		}
	}
	return best, least
}

// beginning is what the first hours of a plan cost.
type beginning struct {
	hours []string
	cost  int64
}

// isBefore reports whether a beginning is cheaper than another one of as many hours, or as cheap and first.
func (b beginning) isBefore(other beginning) bool {
	return b.cost < other.cost || b.cost == other.cost && slices.Compare(b.hours, other.hours) < 0
}

// grownCheapestPlan lets beginnings grow by an hour each time, and keeps the best one of those with the same last hours.
func grownCheapestPlan(list []impl.Unit, demands []int64) (string, int64) {
	kept := map[string]beginning{"": {}}
	for _, demand := range demands {
		grown := make(map[string]beginning)
		for _, b := range kept {
			for _, hour := range allSwitches(len(list)) {
				next, isPossible := b.grow(list, hour, demand)
				last := fmt.Sprint(next.hours[max(0, len(next.hours)-impl.MaxRun):])
				if old, exists := grown[last]; isPossible && (!exists || next.isBefore(old)) {
					grown[last] = next
				}
			}
		}
		kept = grown
	}
	best, isFound := beginning{}, false
	for _, b := range kept {
		if !isFound || b.isBefore(best) {
			best, isFound = b, true
		}
	}
	return strings.Join(best.hours, " "), best.cost
}

// grow returns a beginning with one more hour, and whether this may follow.
func (b beginning) grow(list []impl.Unit, hour string, demand int64) (beginning, bool) {
	next := beginning{append(slices.Clone(b.hours), hour), b.cost}
	_, heat, isMet := exactSharing(list, switchesOf(hour), demand)
	next.cost += heat
	for unit, u := range list {
		column := columnOf(next.hours, unit)
		if isMet = isMet && keepsRun(u, column, len(b.hours)); !isMet {
			return next, false
		}
		if strings.HasSuffix("0"+column, "01") {
			next.cost += u.Start
		}
	}
	return next, true
}

func TestNoPlanIsCheaper(t *testing.T) {
	random := rand.New(rand.NewSource(146))
	found := 0
	for range 2000 {
		list := randomUnits(random, 1+random.Intn(impl.MaxUnits), 5)
		hours := 1 + random.Intn(min(8, 11/len(list)))
		demands := demandsFor(random, list, randomHours(random, len(list), hours))
		want, cost := exactCheapestPlan(list, demands)
		checkCheapestPlan(t, list, demands, want, cost)
		if grown, grownCost := grownCheapestPlan(list, demands); grown != want || grownCost != cost {
			t.Errorf("the plans of %+v for %d are %s, %d and %s, %d", list, demands, want, cost, grown, grownCost)
		}
		if want != "" {
			found++
		}
	}
	if found < 500 || found > 1900 {
		t.Errorf("%d of 2000 demands are met", found)
	}
}

func TestNoPlanOfManyHoursIsCheaper(t *testing.T) {
	random := rand.New(rand.NewSource(147))
	found := 0
	for range 100 {
		list := randomUnits(random, 1+random.Intn(impl.MaxUnits), 5)
		for i := range list {
			list[i].Least /= 2
		}
		demands := demandsFor(random, list, randomHours(random, len(list), impl.MaxHours))
		want, cost := grownCheapestPlan(list, demands)
		checkCheapestPlan(t, list, demands, want, cost)
		if want != "" {
			found++
		}
	}
	if found < 25 {
		t.Errorf("%d of 100 demands are met", found)
	}
}

// Units that may make nothing, and have to be on and off for as long as possible, come to the most moments.
func TestCheapestPlanOfMostUnits(t *testing.T) {
	list := unitsOf(unitOf(0, 3, 2, 4, 3, 3), unitOf(0, 4, 1, 9, 3, 3), unitOf(0, 3, 2, 4, 3, 3), unitOf(0, 5, 3, 1, 3, 3))
	demands := []int64{5, 0, 9, 2, 0, 7, 15, 0, 0, 3, 10, 1}
	want, cost := grownCheapestPlan(list, demands)
	checkCheapestPlan(t, list, demands, want, cost)
}

func TestCheapestPlanOfTheExample(t *testing.T) {
	boiler, ok := impl.ReadUnit("boiler 10,100,500,2000,1,1")
	if !ok {
		t.Fatal("the unit of the example is not read")
	}
	states, cost, code := impl.CheapestPlan([]impl.Unit{boiler}, []int64{50, 0, 50})
	starts, _ := impl.StartsOf([]impl.Unit{boiler}, states)
	if cost != 54000 || code != impl.OK || !slices.Equal(starts, []int64{2}) {
		t.Errorf("CheapestPlan gives %v, %d, %d, with the starts %d", states, cost, code, starts)
	}
}
