package tests

import (
	"fmt"
	"reflect"
	"slices"
	"testing"

	"loop.example/g01011/impl"
)

// Promise 1 for chapter 11.

// resultsOfBoiling calls every function of chapter 11.
func resultsOfBoiling(n impl.Network, told []boilingFigures, lists []boilingLists) []any {
	var all []any
	for _, c := range boilingCalls() {
		for _, f := range told {
			for _, l := range lists {
				all = append(all, c.of(n, f, l))
			}
		}
	}
	return all
}

// extremeBoiling have any numbers at any places.
func extremeBoiling() []boilingFigures {
	list := []boilingFigures{{}, ordinaryBoiling(), worstBoiling()}
	for _, n := range append(limitNumbers(), impl.MaxMargin, impl.MaxMargin+1) {
		list = append(list, boilingFigures{n, n, n, n, n})
		for place := range 5 {
			numbers := [5]int64{0, 300000, 1000, 1000000, 8000}
			numbers[place] = n
			list = append(list, boilingFigures{numbers[0], numbers[1], numbers[2], numbers[3], numbers[4]})
		}
	}
	return list
}

func resultsOfSources() []any {
	var all []any
	for i, n := range append(extremeNetworks(), boilingNetworks()...) {
		list := extremeLists()[i%len(extremeLists())]
		lists := []boilingLists{{}, ordinaryWater(n), {list, list, list}, {list, slices.Repeat([]int64{5}, len(list)), extremes(len(n.Pipes))}}
		all = append(all, resultsOfBoiling(n, extremeBoiling(), lists)...)
	}
	return all
}

func TestBoilingReturnsAlwaysTheSame(t *testing.T) {
	results := resultsOfSources()
	if !reflect.DeepEqual(results, resultsOfSources()) {
		t.Error("equal arguments have given different results")
	}
	checkCodesComeAlone(t, results)
}

func TestBoilingMayBeCalledAtOnce(t *testing.T) {
	const workers = 4
	n, told := village(), extremeBoiling()
	lists := []boilingLists{ordinaryWater(n), {alike(99999, 6), []int64{0, 700, 9961, 12000, 17000, 18000}, []int64{62, -4, 56, -16, 32}}}
	results := make(chan []any, workers)
	for range workers {
		go func() { results <- resultsOfBoiling(n, told, lists) }()
	}
	first := <-results
	for range workers - 1 {
		if !reflect.DeepEqual(first, <-results) {
			t.Error("calls at the same time have given different results")
		}
	}
}

func TestBoilingKeepsItsArguments(t *testing.T) {
	for _, n := range append(append(validNetworks(), invalidNetworks()[:8]...), boilingNetworks()...) {
		for _, number := range []int64{0, 700, 9961, -1, impl.MaxFlow} {
			nodes, wholeNodes := spacious(n.Nodes, 77)
			pipes, wholePipes := spacious(n.Pipes, mainPipe())
			pressures, wholePressures := spacious(alike(11*number, len(n.Nodes)), 78)
			degrees, wholeDegrees := spacious(alike(number, len(n.Nodes)), 79)
			flows, wholeFlows := spacious(alike(-number, len(n.Pipes)), 80)
			memory := func() string { return fmt.Sprint(wholeNodes, wholePipes, wholePressures, wholeDegrees, wholeFlows) }
			before := memory()
			resultsOfBoiling(impl.Network{Nodes: nodes, Pipes: pipes}, extremeBoiling(), []boilingLists{{pressures, degrees, flows}})
			if memory() != before {
				t.Errorf("a function has changed %+v, %d, %d or %d", n, pressures, degrees, flows)
			}
		}
	}
}

func TestResultsOfBoilingAreNewMemory(t *testing.T) {
	n, f := village(), ordinaryBoiling()
	l := boilingLists{[]int64{5, 4, 3, 2, 1, 0}, alike(8000, 6), make([]int64, 5)}
	before := fmt.Sprint(n, l)
	boiling, _ := impl.BoilingNodes(l.pressures, l.degrees, f.margin)
	high, _ := impl.TooHigh(l.pressures, 0)
	overwrite(boiling, -9)
	overwrite(high, -9)
	if fmt.Sprint(n, l) != before {
		t.Errorf("a result shares memory with %+v or %+v", n, l)
	}
	boiling, code := impl.BoilingNodes(l.pressures, l.degrees, f.margin)
	checkIndices(t, boiling, code, first(6), "BoilingNodes", "after its result was changed")
	high, code = impl.TooHigh(l.pressures, 0)
	checkIndices(t, high, code, first(5), "TooHigh", "after its result was changed")
}

func TestBoilingTakesNilAndEmptyAlike(t *testing.T) {
	without, with := impl.Network{Nodes: []int64{5}}, impl.Network{Nodes: []int64{5}, Pipes: []impl.Pipe{}}
	a := resultsOfBoiling(without, extremeBoiling(), []boilingLists{{}, {degrees: []int64{700}}})
	b := resultsOfBoiling(with, extremeBoiling(), []boilingLists{{[]int64{}, []int64{}, []int64{}}, {[]int64{}, []int64{700}, []int64{}}})
	if fmt.Sprint(a) != fmt.Sprint(b) {
		t.Errorf("the results are %v for nil, and %v for empty lists", a, b)
	}
}
