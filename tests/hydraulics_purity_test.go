package tests

import (
	"fmt"
	"reflect"
	"slices"
	"testing"

	"loop.example/g01011/impl"
)

// Promise 1 for chapter 7.

// resultsOfFlows calls every function of chapter 7 that takes a network.
func resultsOfFlows(n impl.Network, demands, flows []int64, told []figures) []any {
	var all []any
	for _, h := range hydraulics() {
		for _, f := range told {
			all = append(all, h.of(n, demands, flows, f))
		}
	}
	return all
}

// extremeFigures have any numbers at any places.
func extremeFigures() []figures {
	list := []figures{{}, {3, 2, 50000, 8000, 800}, {1, 0, impl.MaxPressure, impl.MinDegrees, impl.MaxDegrees}}
	for _, n := range extremeNumbers() {
		list = append(list, figures{n, n, n, n, n}, figures{source: n}, figures{node: n}, figures{pressure: n}, figures{supply: n}, figures{ground: n})
	}
	return list
}

func resultsOfHydraulics() []any {
	var all []any
	networks := append(append(extremeNetworks(), noTrees()...), village(), pressedChain())
	for i, n := range networks {
		list := extremeLists()[i%len(extremeLists())]
		told := extremeFigures()
		all = append(all, resultsOfFlows(n, list, list, told)...)
		all = append(all, resultsOfFlows(n, make([]int64, len(n.Nodes)), make([]int64, len(n.Pipes)), told)...)
		all = append(all, resultsOfFlows(n, extremes(len(n.Nodes)), extremes(len(n.Pipes)), told)...)
	}
	for _, head := range limitNumbers() {
		for _, flow := range limitNumbers() {
			all = append(all, codedOf(impl.PumpPower(head, flow)))
		}
	}
	return all
}

func TestHydraulicsReturnAlwaysTheSame(t *testing.T) {
	results := resultsOfHydraulics()
	if !reflect.DeepEqual(results, resultsOfHydraulics()) {
		t.Error("equal arguments have given different results")
	}
	checkCodesComeAlone(t, results)
}

// checkCodesComeAlone checks that with a code other than OK all other results are zero values.
func checkCodesComeAlone(t *testing.T, results []any) {
	t.Helper()
	for _, result := range results {
		switch r := result.(type) {
		case coded:
			if r.code != impl.OK && r.value != 0 {
				t.Errorf("a result of %d comes with the code %d", r.value, r.code)
			}
		case outcome:
			if r.code != impl.OK {
				checkFailed(t, r, r.code, "a function")
			}
		}
	}
}

func TestHydraulicsMayBeCalledAtOnce(t *testing.T) {
	const workers = 4
	n, demands := village(), []int64{1, 2, 4, 8, 16, 32}
	flows, told := []int64{62, -4, 56, -16, 32}, extremeFigures()
	results := make(chan []any, workers)
	for range workers {
		go func() { results <- resultsOfFlows(n, demands, flows, told) }()
	}
	first := <-results
	for range workers - 1 {
		if !reflect.DeepEqual(first, <-results) {
			t.Error("calls at the same time have given different results")
		}
	}
}

func TestHydraulicsKeepTheirArguments(t *testing.T) {
	networks := append(append(validNetworks(), invalidNetworks()[:8]...), village(), pressedChain())
	for _, n := range networks {
		for _, number := range []int64{0, 1, 700, impl.MaxFlow, -1} {
			nodes, wholeNodes := spacious(n.Nodes, 77)
			pipes, wholePipes := spacious(n.Pipes, mainPipe())
			demands, wholeDemands := spacious(slices.Repeat([]int64{number}, len(n.Nodes)), 78)
			flows, wholeFlows := spacious(slices.Repeat([]int64{-number}, len(n.Pipes)), 79)
			before := fmt.Sprint(wholeNodes, wholePipes, wholeDemands, wholeFlows)
			resultsOfFlows(impl.Network{Nodes: nodes, Pipes: pipes}, demands, flows, extremeFigures())
			if fmt.Sprint(wholeNodes, wholePipes, wholeDemands, wholeFlows) != before {
				t.Errorf("a function has changed %+v, %d or %d", n, demands, flows)
			}
		}
	}
}

func TestResultsOfHydraulicsAreNewMemory(t *testing.T) {
	n, demands, flows := village(), []int64{1, 2, 4, 8, 16, 32}, []int64{62, -4, 56, -16, 32}
	told := figures{0, 5, 50000, 8000, 800}
	var before []outcome
	for _, h := range hydraulics() {
		before = append(before, h.of(n, demands, flows, told))
	}
	want := fmt.Sprint(before)
	for _, h := range hydraulics() {
		overwrite(h.of(n, demands, flows, told).values, -9)
	}
	if !impl.SameNetwork(n, village()) || !slices.Equal(demands, []int64{1, 2, 4, 8, 16, 32}) || !slices.Equal(flows, []int64{62, -4, 56, -16, 32}) {
		t.Errorf("a result shares memory with %+v, %d or %d", n, demands, flows)
	}
	if fmt.Sprint(before) != want {
		t.Errorf("results share memory with others: %v, before %s", before, want)
	}
	for i, h := range hydraulics() {
		if again := h.of(n, demands, flows, told); !reflect.DeepEqual(again, before[i]) {
			t.Errorf("%s gives %+v after its result was changed", h.name, again)
		}
	}
}

func TestHydraulicsTakeNilAndEmptyAlike(t *testing.T) {
	without, with := impl.Network{Nodes: []int64{5}}, impl.Network{Nodes: []int64{5}, Pipes: []impl.Pipe{}}
	for _, demands := range [][]int64{{0}, {9}} {
		a := resultsOfFlows(without, demands, nil, extremeFigures())
		b := resultsOfFlows(with, demands, []int64{}, extremeFigures())
		if fmt.Sprint(a) != fmt.Sprint(b) {
			t.Errorf("the results are %v without pipes, and %v with none", a, b)
		}
	}
	a := resultsOfFlows(village(), nil, nil, extremeFigures())
	b := resultsOfFlows(village(), []int64{}, []int64{}, extremeFigures())
	if fmt.Sprint(a) != fmt.Sprint(b) {
		t.Errorf("the results are %v for nil, and %v for empty lists", a, b)
	}
}
