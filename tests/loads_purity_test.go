package tests

import (
	"fmt"
	"reflect"
	"slices"
	"testing"

	"loop.example/g01011/impl"
)

// Promise 1 for chapter 5.

// loadNumbers are the extreme numbers, and those at the limits of loads.
func loadNumbers() []int64 {
	return append(extremeNumbers(),
		impl.MinOutdoor, impl.MinOutdoor-1, impl.MaxOutdoor, impl.MaxOutdoor+1, hours-1, hours, impl.MaxNodes, impl.MaxNodes+1,
		impl.MaxLoad, impl.MaxLoad+1, impl.MinDegrees, impl.MinDegrees-1, impl.MaxDegrees, impl.MaxDegrees+1, 418600)
}

// resultsOfLists calls the functions of lists of buildings with all the numbers and outdoor temperatures.
func resultsOfLists(list []impl.Building, numbers []int64, days [][]int64) []any {
	all := []any{impl.ValidBuildings(list)}
	keep := func(results ...any) { all = append(all, results...) }
	for _, outdoors := range days {
		sums, code := impl.ForecastOf(list, outdoors)
		heat, heatCode := impl.HeatOf(list, outdoors)
		hour, load, peakCode := impl.PeakHour(list, outdoors)
		keep(sums, code, heat, heatCode, hour, load, peakCode)
	}
	for _, a := range numbers {
		for _, b := range numbers {
			loads, code := impl.NodeLoads(list, a, b, 23)
			more, moreCode := impl.NodeLoads(list, impl.MaxNodes, a, b)
			keep(loads, code, more, moreCode, codedOf(impl.OutdoorFor(list, a, b)))
		}
	}
	return all
}

// resultsOfBuilding calls the functions of one building.
func resultsOfBuilding(b impl.Building, numbers []int64, days [][]int64) []any {
	all := []any{impl.BuildingText(b)}
	for _, outdoors := range days {
		loads, code := impl.DayLoads(b, outdoors)
		all = append(all, loads, code)
	}
	for _, outdoor := range numbers {
		for _, hour := range numbers {
			all = append(all, codedOf(impl.LoadOf(b, outdoor, hour)))
		}
	}
	return all
}

// extremeDays are lists of any length with any numbers.
func extremeDays() [][]int64 {
	return append(append(wrongDays(), extremeLists()...), always(0), always(-4000))
}

func resultsOfLoads() []any {
	var all []any
	for _, list := range append(validLists(), invalidLists()...) {
		all = append(all, resultsOfLists(list, []int64{-1, 0, 1, 16, 23, 24, 4500, 4501, impl.MaxLoad}, extremeDays())...)
	}
	all = append(all, resultsOfLists(mostBuildings(), loadNumbers(), nil)...)
	for _, b := range append(validBuildings(), invalidBuildings()...) {
		all = append(all, resultsOfBuilding(b, loadNumbers(), extremeDays())...)
	}
	for _, a := range loadNumbers() {
		for _, b := range loadNumbers() {
			for _, c := range loadNumbers() {
				all = append(all, codedOf(impl.WaterFor(a, b, c)))
			}
		}
	}
	for _, s := range append(extremeTexts(), impl.BuildingText(house()), "house 2,10000,200,1500 1,2") {
		b, ok := impl.ReadBuilding(s)
		all = append(all, b, ok)
	}
	return all
}

func TestLoadsReturnAlwaysTheSame(t *testing.T) {
	results := resultsOfLoads()
	if !reflect.DeepEqual(results, resultsOfLoads()) {
		t.Error("equal arguments have given different results")
	}
	for _, result := range results {
		if c, ok := result.(coded); ok && c.code != impl.OK && c.value != 0 {
			t.Errorf("a result of %d comes with the code %d", c.value, c.code)
		}
	}
}

func TestLoadsMayBeCalledAtOnce(t *testing.T) {
	const workers = 4
	list, days := mostBuildings(), [][]int64{always(-4000), always(3)}
	results := make(chan []any, workers)
	for range workers {
		go func() { results <- resultsOfLists(list, extremeNumbers(), days) }()
	}
	first := <-results
	for range workers - 1 {
		if !reflect.DeepEqual(first, <-results) {
			t.Error("calls at the same time have given different results")
		}
	}
}

// spaciousBuilding returns a building whose profile has unused capacity, and all memory of the profile.
func spaciousBuilding(b impl.Building) (impl.Building, []int64) {
	profile, whole := spacious(b.Profile, 77)
	b.Profile = profile
	return b, whole
}

func TestLoadsKeepTheirArguments(t *testing.T) {
	lists := append(validLists(), invalidLists()[:8]...)
	for _, list := range append(lists, []impl.Building{buildingOf("b", 1, 2, 3, 4), house(), {}}) {
		var buildings []impl.Building
		var profiles, before [][]int64
		for _, b := range list {
			b, whole := spaciousBuilding(b)
			buildings, profiles, before = append(buildings, b), append(profiles, whole), append(before, slices.Clone(whole))
		}
		given, whole := spacious(buildings, house())
		wholeBefore := slices.Clone(whole)
		outdoors, wholeOutdoors := spacious(always(300), 78)
		outdoorsBefore := slices.Clone(wholeOutdoors)
		days := [][]int64{outdoors, outdoors[:5], wholeOutdoors}
		resultsOfLists(given, []int64{0, 3, 16}, days)
		for _, b := range given {
			resultsOfBuilding(b, []int64{0, 3}, days)
		}
		if !reflect.DeepEqual(profiles, before) || !reflect.DeepEqual(whole, wholeBefore) || !slices.Equal(wholeOutdoors, outdoorsBefore) {
			t.Errorf("a function has changed %+v or %d", list, outdoors)
		}
	}
}

func TestResultsOfLoadsAreNewMemory(t *testing.T) {
	b, outdoors := house(), always(300)
	list := []impl.Building{b}
	loads, _ := impl.DayLoads(b, outdoors)
	sums, _ := impl.ForecastOf(list, outdoors)
	ofNodes, _ := impl.NodeLoads(list, 16, 300, 0)
	read, _ := impl.ReadBuilding(impl.BuildingText(b))
	for _, result := range [][]int64{loads, sums, ofNodes, read.Profile} {
		overwrite(result, -9)
	}
	if !reflect.DeepEqual(b, house()) || !slices.Equal(outdoors, always(300)) {
		t.Errorf("a result shares memory with %+v or %d", b, outdoors)
	}
	again, code := impl.DayLoads(b, outdoors)
	if want := exactLoad(b, 300, 5); code != impl.OK || again[5] != want {
		t.Errorf("DayLoads gives %d after its result was changed", again)
	}
	if got, ok := impl.ReadBuilding(impl.BuildingText(b)); !ok || !reflect.DeepEqual(got, b) {
		t.Errorf("ReadBuilding gives %+v after its result was changed", got)
	}
}

func TestLoadsTakeNilAndEmptyAlike(t *testing.T) {
	days := [][]int64{nil, always(0)}
	emptyDays := [][]int64{{}, always(0)}
	a := resultsOfLists(nil, []int64{0, 1, 16}, days)
	b := resultsOfLists([]impl.Building{}, []int64{0, 1, 16}, emptyDays)
	if fmt.Sprint(a) != fmt.Sprint(b) {
		t.Errorf("the results are %v without buildings, and %v with none", a, b)
	}
	without, with := house(), house()
	without.Profile, with.Profile = nil, []int64{}
	if impl.BuildingText(without) != impl.BuildingText(with) {
		t.Error("BuildingText tells nil from an empty profile")
	}
}
