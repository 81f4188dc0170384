package tests

import (
	"fmt"
	"reflect"
	"slices"
	"testing"

	"loop.example/g01011/impl"
)

// Promise 1 for chapter 13.

// resultsOfUnitList calls every function of units.
func resultsOfUnitList(list []impl.Unit, told []unitFigures) []any {
	all := []any{impl.ValidUnits(list)}
	for _, f := range told {
		for _, c := range unitCalls() {
			all = append(all, c.of(list, f))
		}
		all = append(all, impl.IsPlan(list, f.states, f.demands))
	}
	return all
}

// extremeUnitFigures have anything at any place.
func extremeUnitFigures(units int) []unitFigures {
	all := slices.Repeat([]bool{true}, units)
	told := []unitFigures{{}, ordinaryUnits(units), worstUnitFigures(), {all, 50, slices.Repeat([][]bool{all}, 3), []int64{50, 70, 50}}}
	for _, n := range limitNumbers() {
		told = append(told, unitFigures{all, n, [][]bool{all}, []int64{n}}, unitFigures{all[:min(1, units)], n, stillHours(3, units), []int64{0, n, 0}})
	}
	for _, demands := range extremeLists() {
		told = append(told, unitFigures{all, 1, stillHours(len(demands), units), demands}, unitFigures{nil, 0, make([][]bool, len(demands)), demands})
	}
	return told
}

func resultsOfUnits() []any {
	var all []any
	for _, u := range append(validUnits(), invalidUnits()...) {
		all = append(all, impl.UnitText(u))
	}
	for _, list := range append(validUnitLists(), invalidUnitLists()...) {
		all = append(all, resultsOfUnitList(list, extremeUnitFigures(min(len(list), 10)))...)
	}
	for _, s := range append(extremeTexts(), "u 10,100,500,2000,1,1", "u 10,100,500,2000,0,1", "u 0,1,0,0,1,1") {
		u, ok := impl.ReadUnit(s)
		all = append(all, u, ok)
	}
	return all
}

func TestUnitsReturnAlwaysTheSame(t *testing.T) {
	results := resultsOfUnits()
	if !reflect.DeepEqual(results, resultsOfUnits()) {
		t.Error("equal arguments have given different results")
	}
	checkCodesComeAlone(t, results)
}

// The plan does not depend on which hour is looked at first.
func TestCheapestPlanIsAlwaysTheSame(t *testing.T) {
	list, demands := unitsOf(slices.Repeat([]impl.Unit{unitOf(0, 3, 1, 0, 1, 1)}, impl.MaxUnits)...), []int64{3, 6, 9, 12, 0, 3, 6, 9, 12, 0, 1, 2}
	for range 200 {
		checkCheapestPlan(t, list, demands, "0001 0011 0111 1111 0000 0001 0011 0111 1111 0000 0001 0001", 63)
	}
}

func TestUnitsMayBeCalledAtOnce(t *testing.T) {
	const workers = 4
	list, told := twoUnits(), extremeUnitFigures(2)
	told = append(told, unitFigures{[]bool{true, true}, 120, statesOf("01 11 01"), []int64{50, 120, 30}})
	results := make(chan []any, workers)
	for range workers {
		go func() { results <- resultsOfUnitList(list, told) }()
	}
	first := <-results
	for range workers - 1 {
		if !reflect.DeepEqual(first, <-results) {
			t.Error("calls at the same time have given different results")
		}
	}
}

func TestUnitsKeepTheirArguments(t *testing.T) {
	lists := append(validUnitLists(), invalidUnitLists()...)
	for _, list := range slices.DeleteFunc(lists, func(list []impl.Unit) bool { return len(list) > 10 }) {
		for _, text := range []string{"01 11 01", "10 01", "0000 1111", "1", "0", "1 0 1"} {
			units, wholeUnits := spacious(list, mainUnit())
			on, wholeOn := spacious(statesOf(text)[0], true)
			demands, wholeDemands := spacious([]int64{50, 60, 50}[:len(statesOf(text))], 77)
			var states, wholeHours [][]bool
			for _, hour := range statesOf(text) {
				part, whole := spacious(hour, true)
				states, wholeHours = append(states, part), append(wholeHours, whole)
			}
			states, wholeStates := spacious(states, []bool{true, false})
			memory := func() string {
				return fmt.Sprint(wholeUnits, wholeOn, wholeDemands, wholeHours, wholeStates)
			}
			before := memory()
			resultsOfUnitList(units, []unitFigures{{on, 50, states, demands}})
			if memory() != before {
				t.Errorf("a function has changed %+v, %v, %v or %d", units, on, states, demands)
			}
		}
	}
}

func TestResultsOfUnitsAreNewMemory(t *testing.T) {
	list, f := twoUnits(), unitFigures{[]bool{true, true}, 120, statesOf("01 11 01"), []int64{50, 120, 30}}
	var before []outcome
	for _, c := range unitCalls() {
		before = append(before, c.of(list, f))
	}
	merit, _ := impl.MeritOrder(list)
	powers, _, _ := impl.ShareDemand(list, f.on, f.demand)
	starts, _ := impl.StartsOf(list, f.states)
	hours, _ := impl.HoursOf(list, f.states)
	for _, numbers := range [][]int64{merit, powers, starts, hours} {
		overwrite(numbers, -9)
	}
	if !slices.Equal(list, twoUnits()) || textOf(f.states) != "01 11 01" || !slices.Equal(f.demands, []int64{50, 120, 30}) {
		t.Errorf("a result shares memory with %+v or %+v", list, f)
	}
	for i, c := range unitCalls() {
		if again := c.of(list, f); !reflect.DeepEqual(again, before[i]) {
			t.Errorf("%s gives %+v after its result was changed", c.name, again)
		}
	}
}

// Hours in which the same units are on are lists of their own.
func TestHoursOfACheapestPlanShareNoMemory(t *testing.T) {
	demands := slices.Repeat([]int64{50}, impl.MaxHours)
	for changed := range impl.MaxHours {
		states, _, _ := impl.CheapestPlan(twoUnits(), demands)
		overwrite(states[changed], true)
		for hour, on := range states {
			if want := hour == changed; len(on) != 2 || on[0] != want || !on[1] {
				t.Errorf("after hour %d was changed, the units of hour %d are %v", changed, hour, on)
			}
		}
	}
	states, _, _ := impl.CheapestPlan(twoUnits(), demands)
	overwrite(states, nil)
	checkCheapestPlan(t, twoUnits(), demands, "01 01 01 01 01 01 01 01 01 01 01 01", impl.MaxHours*50*300+5000)
}

func TestUnitsTakeNilAndEmptyAlike(t *testing.T) {
	none, empty := unitFigures{}, unitFigures{[]bool{}, 0, [][]bool{}, []int64{}}
	for _, list := range append(validUnitLists(), nil, []impl.Unit{}) {
		a, b := resultsOfUnitList(list, []unitFigures{none}), resultsOfUnitList(list, []unitFigures{empty})
		if fmt.Sprint(a) != fmt.Sprint(b) {
			t.Errorf("the results are %v for nil, and %v for empty lists", a, b)
		}
	}
	a := resultsOfUnitList(nil, []unitFigures{ordinaryUnits(0), {nil, 0, [][]bool{nil}, []int64{0}}})
	b := resultsOfUnitList([]impl.Unit{}, []unitFigures{ordinaryUnits(0), {[]bool{}, 0, [][]bool{{}}, []int64{0}}})
	if fmt.Sprint(a) != fmt.Sprint(b) {
		t.Errorf("the results are %v for nil, and %v for empty units", a, b)
	}
}
