package tests

import (
	"fmt"
	"reflect"
	"slices"
	"testing"

	"loop.example/g01011/impl"
)

// Promise 1 for chapter 10.

// resultsOfCoats calls every function of chapter 10 that takes a pipe.
func resultsOfCoats(p impl.Pipe, told []lossFigures) []any {
	var all []any
	for _, c := range coatCalls() {
		for _, f := range told {
			all = append(all, c.of(p, f))
		}
	}
	return all
}

// resultsOfRenewals calls every function of chapter 10 that takes a network.
func resultsOfRenewals(n impl.Network, told []lossFigures, lists []lossLists) []any {
	var all []any
	for _, c := range lossCalls() {
		for _, f := range told {
			for _, l := range lists {
				all = append(all, c.of(n, f, l))
			}
		}
	}
	return all
}

// lossNumbers are the extreme numbers, and those at the limits of losses.
func lossNumbers() []int64 {
	return append(extremeNumbers(), impl.MinWidth, impl.MaxThickness, impl.MaxThickness+1, impl.MaxConductivity, impl.MaxConductivity+1,
		impl.MaxLoss, impl.MaxLoss+1, impl.MaxBudget, impl.MaxBudget+1, renewalLimit, renewalLimit+1, impl.MinDegrees, impl.MaxDegrees, impl.MaxDegrees+1)
}

// extremeLosses have any numbers at any places.
func extremeLosses() []lossFigures {
	list := []lossFigures{{}, ordinaryFigures(), worstFigures()}
	for _, n := range lossNumbers() {
		list = append(list, lossFigures{n, n, n, n, n, n, n, n, n, n, n})
		for place := range 11 {
			numbers := [11]int64{10, 30, 50, 5, 30, 1, 200, 12, 500, 6000, 0}
			numbers[place] = n
			list = append(list, lossFigures{
				numbers[0], numbers[1], numbers[2], numbers[3], numbers[4],
				numbers[5], numbers[6], numbers[7], numbers[8], numbers[9], numbers[10],
			})
		}
	}
	return list
}

func resultsOfLosses() []any {
	var all []any
	for _, p := range extremePipes() {
		all = append(all, resultsOfCoats(p, extremeLosses())...)
	}
	for i, n := range append(extremeNetworks(), lossNetworks()...) {
		list := extremeLists()[i%len(extremeLists())]
		lists := []lossLists{{}, ordinaryLists(n), {list, list, list, list}, {months(firstNumber(list)), months(5), list, make([]int64, len(n.Pipes))}}
		all = append(all, resultsOfRenewals(n, extremeLosses(), lists)...)
	}
	for _, a := range lossNumbers() {
		for _, b := range lossNumbers() {
			for _, c := range lossNumbers() {
				all = append(all, codedOf(impl.CoatLoss(a, b, c)))
			}
		}
	}
	return all
}

// firstNumber returns the first number of a list, and 0 if there is none.
func firstNumber(list []int64) int64 {
	if len(list) == 0 {
		return 0
	}
	return list[0]
}

func TestLossesReturnAlwaysTheSame(t *testing.T) {
	results := resultsOfLosses()
	if !reflect.DeepEqual(results, resultsOfLosses()) {
		t.Error("equal arguments have given different results")
	}
	checkCodesComeAlone(t, results)
}

func TestLossesMayBeCalledAtOnce(t *testing.T) {
	const workers = 4
	n, told := lineOf(9), extremeLosses()
	lists := []lossLists{ordinaryLists(n), {months(5), months(7), []int64{0, 3}, []int64{1, 2, 3, 4, 5, 6, 7, 8}}}
	results := make(chan []any, workers)
	for range workers {
		go func() { results <- append(resultsOfRenewals(n, told, lists), resultsOfCoats(mainPipe(), told)...) }()
	}
	first := <-results
	for range workers - 1 {
		if !reflect.DeepEqual(first, <-results) {
			t.Error("calls at the same time have given different results")
		}
	}
}

func TestLossesKeepTheirArguments(t *testing.T) {
	for _, n := range append(append(validNetworks(), invalidNetworks()[:8]...), lossNetworks()...) {
		nodes, wholeNodes := spacious(n.Nodes, 77)
		pipes, wholePipes := spacious(n.Pipes, mainPipe())
		warms, wholeWarms := spacious(months(6000), 78)
		grounds, wholeGrounds := spacious(months(0), 79)
		costs, wholeCosts := spacious(slices.Repeat([]int64{3}, len(n.Pipes)), 80)
		indices, wholeIndices := spacious(first(int64(len(n.Pipes))), 81)
		memory := func() string {
			return fmt.Sprint(wholeNodes, wholePipes, wholeWarms, wholeGrounds, wholeCosts, wholeIndices)
		}
		before := memory()
		resultsOfRenewals(impl.Network{Nodes: nodes, Pipes: pipes}, extremeLosses(), []lossLists{{warms, grounds, indices, costs}})
		if memory() != before {
			t.Errorf("a function has changed %+v, %d, %d, %d or %d", n, warms, grounds, indices, costs)
		}
	}
}

func TestResultsOfLossesAreNewMemory(t *testing.T) {
	n, f, l := village(), ordinaryFigures(), ordinaryLists(village())
	f.count, f.money, f.budget = 3, 10, 500
	var before []outcome
	for _, c := range lossCalls() {
		before = append(before, c.of(n, f, l))
	}
	// The renewal of no pipes changes nothing, so a careless function might return the network as it is.
	for _, pipes := range [][]int64{nil, {0}, first(5)} {
		renewed, _ := impl.RenewPipes(n, pipes, 200)
		again, _ := impl.RenewPipes(n, pipes, 200)
		overwrite(renewed.Nodes, -9)
		overwrite(renewed.Pipes, impl.Pipe{})
		if !impl.SameNetwork(again, exactRenewed(village(), pipes, 200)) {
			t.Errorf("RenewPipes gives %+v after another result was changed", again)
		}
	}
	shares, _ := impl.LossShares(n, 6000, 0)
	worst, _ := impl.WorstPipes(n, 3)
	best, _, _ := impl.BestRenewal(n, l.costs, 200, 10, 6000, 0, 500)
	for _, list := range [][]int64{shares, worst, best} {
		overwrite(list, -9)
	}
	if !impl.SameNetwork(n, village()) || !reflect.DeepEqual(l, ordinaryLists(village())) {
		t.Errorf("a result shares memory with %+v or %+v", n, l)
	}
	for i, c := range lossCalls() {
		if again := c.of(n, f, l); !reflect.DeepEqual(again, before[i]) {
			t.Errorf("%s gives %+v after its result was changed", c.name, again)
		}
	}
}

func TestLossesTakeNilAndEmptyAlike(t *testing.T) {
	without, with := impl.Network{Nodes: []int64{5}}, impl.Network{Nodes: []int64{5}, Pipes: []impl.Pipe{}}
	a := resultsOfRenewals(without, extremeLosses(), []lossLists{{}, {warms: months(5), grounds: months(7)}})
	b := resultsOfRenewals(with, extremeLosses(), []lossLists{
		{[]int64{}, []int64{}, []int64{}, []int64{}}, {months(5), months(7), []int64{}, []int64{}},
	})
	if fmt.Sprint(a) != fmt.Sprint(b) {
		t.Errorf("the results are %v for nil, and %v for empty lists", a, b)
	}
}
