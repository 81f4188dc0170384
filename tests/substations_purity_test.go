package tests

import (
	"fmt"
	"reflect"
	"slices"
	"testing"

	"loop.example/g01011/impl"
)

// Promise 1 for chapter 12.

// resultsOfSubstation calls every function of a substation.
func resultsOfSubstation(x impl.Substation, told []heatFigures) []any {
	all := []any{impl.ValidSubstation(x), impl.SubstationText(x)}
	for _, c := range substationCalls() {
		for _, f := range told {
			all = append(all, c.of(x, f))
		}
	}
	return all
}

// resultsOfSubstationLists calls every function of several substations.
func resultsOfSubstationLists(list []impl.Substation, numbers []int64, loads [][]int64) []any {
	all := []any{impl.ValidSubstations(list)}
	for _, c := range listCalls() {
		for _, primary := range numbers {
			for _, l := range loads {
				all = append(all, c.of(list, primary, l))
			}
		}
	}
	return all
}

// extremeHeat have any numbers at any places.
func extremeHeat() []heatFigures {
	list := []heatFigures{{}, ordinaryHeat(), worstHeat()}
	for _, n := range append(limitNumbers(), 4000, 9001) {
		list = append(list, heatFigures{n, n, n, n})
		for place := range 4 {
			numbers := [4]int64{9000, 5000, 1000, 100}
			numbers[place] = n
			list = append(list, heatFigures{numbers[0], numbers[1], numbers[2], numbers[3]})
		}
	}
	return list
}

func resultsOfSubstations() []any {
	var all []any
	for _, x := range append(validSubstations(), invalidSubstations()...) {
		all = append(all, resultsOfSubstation(x, extremeHeat())...)
	}
	lists := append(validSubstationLists(), append(invalidSubstationLists(), coldAndHot())...)
	for i, list := range lists {
		wild := extremeLists()[i%len(extremeLists())]
		loads := [][]int64{nil, make([]int64, len(list)), alike(100, len(list)), alike(impl.MaxPressure, len(list)), wild}
		all = append(all, resultsOfSubstationLists(list, append(limitNumbers(), 9000), loads)...)
	}
	for _, s := range append(extremeTexts(), "e 1,1000,6000,4000", "e 1,1000,4000,6000", "a 0,1,1,0") {
		x, ok := impl.ReadSubstation(s)
		all = append(all, x, ok)
	}
	return all
}

func TestSubstationsReturnAlwaysTheSame(t *testing.T) {
	results := resultsOfSubstations()
	if !reflect.DeepEqual(results, resultsOfSubstations()) {
		t.Error("equal arguments have given different results")
	}
	checkCodesComeAlone(t, results)
}

func TestSubstationsMayBeCalledAtOnce(t *testing.T) {
	const workers = 4
	x, list, told := mainSubstation(), coldAndHot(), extremeHeat()
	loads := [][]int64{{35730, 0}, {100, 100}, {0, 0}, {1, 1, 1}}
	results := make(chan []any, workers)
	for range workers {
		go func() {
			results <- append(resultsOfSubstation(x, told), resultsOfSubstationLists(list, []int64{0, 9000, 12000, impl.MaxWater}, loads)...)
		}()
	}
	first := <-results
	for range workers - 1 {
		if !reflect.DeepEqual(first, <-results) {
			t.Error("calls at the same time have given different results")
		}
	}
}

func TestSubstationsKeepTheirArguments(t *testing.T) {
	for _, list := range append(validSubstationLists(), append(invalidSubstationLists()[:6], coldAndHot())...) {
		for _, load := range []int64{0, 100, 35730, impl.MaxPressure, -1} {
			given, wholeList := spacious(list, substationOf(7, 8, 9))
			loads, wholeLoads := spacious(alike(load, len(list)), 77)
			listBefore, loadsBefore := slices.Clone(wholeList), slices.Clone(wholeLoads)
			resultsOfSubstationLists(given, []int64{0, 4000, 9000, impl.MaxWater, -1}, [][]int64{loads})
			if !slices.Equal(wholeList, listBefore) || !slices.Equal(wholeLoads, loadsBefore) {
				t.Errorf("a function has changed %+v or %d", listBefore[:min(len(list), 20)], load)
			}
		}
	}
}

func TestResultsOfSubstationsAreNewMemory(t *testing.T) {
	list, loads := substationsOf(3, mainSubstation()), []int64{39951, 0, 39951}
	weak, _ := impl.WeakSubstations(list, 9000, loads)
	overwrite(weak, -9)
	again, code := impl.WeakSubstations(list, 9000, loads)
	checkIndices(t, again, code, []int64{0, 2}, "WeakSubstations", "after its result was changed")
	if !slices.Equal(loads, []int64{39951, 0, 39951}) {
		t.Errorf("a result shares memory with the loads %d", loads)
	}
}

func TestSubstationsTakeNilAndEmptyAlike(t *testing.T) {
	a := resultsOfSubstationLists(nil, extremeNumbers(), [][]int64{nil, {5}})
	b := resultsOfSubstationLists([]impl.Substation{}, extremeNumbers(), [][]int64{{}, {5}})
	if fmt.Sprint(a) != fmt.Sprint(b) {
		t.Errorf("the results are %v for nil, and %v for empty lists", a, b)
	}
}
