package tests

import (
	"fmt"
	"reflect"
	"slices"
	"testing"

	"loop.example/g01011/impl"
)

// Promise 1 for chapter 6.

// meterNumbers are the extreme numbers, and those at the limits of meters.
func meterNumbers() []int64 {
	return append(extremeNumbers(),
		hourLimit, hourLimit+1, everyLimit, everyLimit+1, impl.MaxCounter, impl.MaxCounter+1, impl.MaxReadings, impl.MaxReadings-1, 47, 13)
}

// resultsOfReadings calls the functions of readings with all the numbers and forecasts.
func resultsOfReadings(list []impl.Reading, numbers []int64, forecasts [][]int64) []any {
	powers, code := impl.PowersOf(list)
	all := []any{impl.ValidReadings(list), impl.ReadingsText(list), powers, code}
	keep := func(results ...any) { all = append(all, results...) }
	for _, a := range numbers {
		odd, oddCode := impl.OddReadings(list, a)
		missing, missingCode := impl.MissingHours(list, a)
		peaks, peaksCode := impl.PeakHours(list, a)
		keep(odd, oddCode, missing, missingCode, peaks, peaksCode, codedOf(impl.EstimateAt(list, a)))
		for _, b := range numbers {
			more, moreCode := impl.AddReading(list, impl.Reading{Hour: a, Counter: b})
			keep(more, moreCode, codedOf(impl.UsedBetween(list, a, b)))
		}
	}
	for _, forecast := range forecasts {
		keep(codedOf(impl.ForecastError(list, forecast)), codedOf(impl.BestScale(list, forecast)))
	}
	return all
}

// extremeForecasts are lists of any length with any numbers, and some of as many powers as there may be.
func extremeForecasts() [][]int64 {
	return append(extremeLists(), make([]int64, 4), make([]int64, impl.MaxReadings-1), slices.Repeat([]int64{impl.MaxCounter}, impl.MaxReadings-1))
}

func resultsOfMeters() []any {
	var all []any
	for _, list := range append(validReadings(), invalidReadings()...) {
		all = append(all, resultsOfReadings(list, meterNumbers(), extremeForecasts())...)
	}
	for _, s := range append(extremeTexts(), impl.ReadingsText(someReadings()), impl.ReadingsText(widestReadings()), "1:2 0:3") {
		list, ok := impl.ReadReadings(s)
		all = append(all, list, ok)
	}
	return all
}

func TestMetersReturnAlwaysTheSame(t *testing.T) {
	results := resultsOfMeters()
	if !reflect.DeepEqual(results, resultsOfMeters()) {
		t.Error("equal arguments have given different results")
	}
	for _, result := range results {
		if c, ok := result.(coded); ok && c.code != impl.OK && c.value != 0 {
			t.Errorf("a result of %d comes with the code %d", c.value, c.code)
		}
	}
}

func TestMetersMayBeCalledAtOnce(t *testing.T) {
	const workers = 4
	list, forecasts := someReadings(), [][]int64{{90, 1, 3, 4}, nil}
	results := make(chan []any, workers)
	for range workers {
		go func() { results <- resultsOfReadings(list, meterNumbers(), forecasts) }()
	}
	first := <-results
	for range workers - 1 {
		if !reflect.DeepEqual(first, <-results) {
			t.Error("calls at the same time have given different results")
		}
	}
}

func TestMetersKeepTheirArguments(t *testing.T) {
	for _, list := range append(validReadings(), invalidReadings()...) {
		given, whole := spacious(list, impl.Reading{Hour: 77, Counter: 78})
		before := slices.Clone(whole)
		forecast, wholeForecast := spacious([]int64{90, 1, 3, 4}, 79)
		forecastBefore := slices.Clone(wholeForecast)
		numbers := []int64{0, 1, 4, 8, 14, 24, 46, 310, 311, hourLimit}
		resultsOfReadings(given, numbers, [][]int64{forecast, forecast[:1], forecast[:0]})
		if !slices.Equal(whole, before) || !slices.Equal(wholeForecast, forecastBefore) {
			t.Errorf("a function has changed %v or %d", list, forecast)
		}
	}
}

func TestResultsOfMetersAreNewMemory(t *testing.T) {
	list := someReadings()
	powers, _ := impl.PowersOf(list)
	odd, _ := impl.OddReadings(list, 0)
	missing, _ := impl.MissingHours(list, 1)
	peaks, _ := impl.PeakHours(list, 2)
	for _, result := range [][]int64{powers, odd, missing, peaks} {
		overwrite(result, -9)
	}
	more, _ := impl.AddReading(list, impl.Reading{Hour: 24, Counter: 400})
	read, _ := impl.ReadReadings(impl.ReadingsText(list))
	overwrite(more, impl.Reading{Hour: -9})
	overwrite(read, impl.Reading{Hour: -9})
	if !slices.Equal(list, someReadings()) {
		t.Errorf("a result shares memory with %v", list)
	}
	again, code := impl.PowersOf(list)
	checkIndices(t, again, code, []int64{100, 0, 1, 0}, "PowersOf", "after its result was changed")
	again, code = impl.PeakHours(list, 2)
	checkIndices(t, again, code, []int64{12, 20}, "PeakHours", "after its result was changed")
}

func TestMetersTakeNilAndEmptyAlike(t *testing.T) {
	numbers := []int64{0, 1, 5, everyLimit}
	a := resultsOfReadings(nil, numbers, [][]int64{nil})
	b := resultsOfReadings([]impl.Reading{}, numbers, [][]int64{{}})
	if fmt.Sprint(a) != fmt.Sprint(b) {
		t.Errorf("the results are %v without readings, and %v with none", a, b)
	}
}
