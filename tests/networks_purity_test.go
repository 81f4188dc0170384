package tests

import (
	"fmt"
	"reflect"
	"slices"
	"testing"

	"loop.example/g01011/impl"
)

// Promise 1 for chapter 4.

// resultsOfNetwork calls every function of a network with all the numbers, Ids and pipes.
func resultsOfNetwork(n impl.Network, closed, numbers []int64, ids []string, pipes []impl.Pipe) []any {
	var all []any
	keep := func(results ...any) { all = append(all, results...) }
	keepList := func(list []int64, code int64) { keep(list, code) }
	keepList(impl.NetworkParts(n))
	keepList(impl.NetworkTree(n))
	keepList(impl.BridgePipes(n))
	keep(impl.ValidNetwork(n), impl.IsTree(n), impl.NetworkText(n), impl.SameNetwork(n, lineOf(4)), impl.SameNetwork(n, n))
	for _, a := range numbers {
		keepList(impl.PipesAt(n, a))
		keepList(impl.ReachedWithout(n, a, closed))
		for _, b := range numbers {
			keepList(impl.PathOf(n, a, b))
			keepList(impl.ReachedWithout(n, 0, []int64{a, b}))
		}
	}
	for _, id := range ids {
		keep(codedOf(impl.PipeNamed(n, id)))
		dropped, code := impl.DropPipe(n, id)
		keep(dropped, code)
	}
	for _, p := range pipes {
		added, code := impl.AddPipe(n, p)
		keep(added, code)
	}
	return all
}

// extremeNetworks have lists of any length with any numbers.
func extremeNetworks() []impl.Network {
	list := append(validNetworks(), invalidNetworks()...)
	for _, numbers := range extremeLists() {
		list = append(list, impl.Network{Nodes: numbers}, impl.Network{Nodes: numbers, Pipes: extremePipes()})
	}
	return append(list, impl.Network{Nodes: make([]int64, 100000), Pipes: make([]impl.Pipe, 100000)})
}

func resultsOfNetworks() []any {
	var all []any
	for i, n := range extremeNetworks() {
		closed := extremeLists()[i%len(extremeLists())]
		all = append(all, resultsOfNetwork(n, closed, extremeNumbers(), append(extremeTexts(), "p10", "main"), extremePipes())...)
	}
	for _, s := range append(extremeTexts(), "0/", "0,0/main 0,1,500,100,300") {
		n, ok := impl.ReadNetwork(s)
		all = append(all, n, ok)
	}
	return all
}

func TestNetworksReturnAlwaysTheSame(t *testing.T) {
	if !reflect.DeepEqual(resultsOfNetworks(), resultsOfNetworks()) {
		t.Error("equal arguments have given different results")
	}
}

func TestNetworksMayBeUsedAtOnce(t *testing.T) {
	const workers = 4
	n := largestNetwork()
	results := make(chan []any, workers)
	for range workers {
		go func() {
			results <- resultsOfNetwork(n, []int64{0, 3}, extremeNumbers(), []string{"pipenumb10", "x"}, extremePipes())
		}()
	}
	first := <-results
	for range workers - 1 {
		if !reflect.DeepEqual(first, <-results) {
			t.Error("calls at the same time have given different results")
		}
	}
}

// spacious returns a copy of a list with unused capacity, and all of its memory.
func spacious[T any](list []T, unused T) ([]T, []T) {
	whole := append(slices.Clone(list), unused, unused, unused)
	return whole[:len(list)], whole
}

func TestNetworksKeepTheirArguments(t *testing.T) {
	for _, n := range append(validNetworks(), invalidNetworks()...) {
		nodes, wholeNodes := spacious(n.Nodes, 77)
		pipes, wholePipes := spacious(n.Pipes, mainPipe())
		closed, wholeClosed := spacious([]int64{0, 1, 3}[:min(3, len(n.Pipes))], 78)
		nodesBefore, pipesBefore, closedBefore := slices.Clone(wholeNodes), slices.Clone(wholePipes), slices.Clone(wholeClosed)
		numbers := []int64{0, 1, 2, int64(len(nodes))}
		resultsOfNetwork(impl.Network{Nodes: nodes, Pipes: pipes}, closed, numbers, []string{"p10", "p12", "x"}, extremePipes())
		if !slices.Equal(wholeNodes, nodesBefore) || !slices.Equal(wholePipes, pipesBefore) || !slices.Equal(wholeClosed, closedBefore) {
			t.Errorf("a function has changed %+v or %d", n, closed)
		}
	}
}

func TestResultsOfNetworksAreNewMemory(t *testing.T) {
	n := networkOf(3, [2]int64{0, 1}, [2]int64{1, 2})
	closed := []int64{0}
	middle := impl.Pipe{Id: "p10a", From: 0, To: 2, Length: 1, Diameter: 20}
	var lists [][]int64
	keep := func(list []int64, code int64) { lists = append(lists, list) }
	keep(impl.PipesAt(n, 1))
	keep(impl.NetworkParts(n))
	keep(impl.NetworkTree(n))
	keep(impl.BridgePipes(n))
	keep(impl.PathOf(n, 0, 2))
	keep(impl.ReachedWithout(n, 0, closed))
	networks := make([]impl.Network, 6)
	networks[0], _ = impl.AddPipe(n, middle)
	networks[1], _ = impl.AddPipe(n, impl.Pipe{Id: "z", From: 0, To: 2, Length: 1, Diameter: 20})
	networks[2], _ = impl.DropPipe(n, "p10")
	networks[3], _ = impl.DropPipe(n, "p11")
	networks[4], _ = impl.DropPipe(networkOf(3, [2]int64{0, 1}), "p10")
	networks[5], _ = impl.ReadNetwork(impl.NetworkText(n))
	for _, list := range lists {
		overwrite(list, -9)
	}
	for _, other := range networks {
		overwrite(other.Nodes, -9)
		overwrite(other.Pipes, impl.Pipe{})
	}
	if !impl.SameNetwork(n, networkOf(3, [2]int64{0, 1}, [2]int64{1, 2})) || closed[0] != 0 {
		t.Errorf("a result shares memory with %+v or %d", n, closed)
	}
	again, _ := impl.AddPipe(n, middle)
	if got, code := impl.PipeNamed(again, "p10a"); got != 1 || code != impl.OK {
		t.Errorf("AddPipe gives %+v after its result was changed", again)
	}
}

func TestNetworksTakeNilAndEmptyAlike(t *testing.T) {
	without, with := impl.Network{Nodes: []int64{1, 2}}, impl.Network{Nodes: []int64{1, 2}, Pipes: []impl.Pipe{}}
	ids, pipes := []string{"p10"}, []impl.Pipe{mainPipe()}
	a := resultsOfNetwork(without, nil, []int64{0, 1, 2}, ids, pipes)
	b := resultsOfNetwork(with, []int64{}, []int64{0, 1, 2}, ids, pipes)
	if fmt.Sprint(a) != fmt.Sprint(b) {
		t.Errorf("the results are %v without pipes, and %v with none", a, b)
	}
}
