package tests

import (
	"slices"
	"strings"
	"testing"

	"loop.example/g01011/impl"
)

// Which errors the functions of chapter 7 return, and in which order.

// figures are the numbers that these functions take beside a network and a list.
type figures struct{ source, node, pressure, supply, ground int64 }

// outcome is a result with its code; if it is several numbers, or a list, all of them are its values.
type outcome struct {
	values []int64
	code   int64
}

// hydraulic is a function that takes some of the figures, and demands or flows.
type hydraulic struct {
	name, takes string
	of          func(n impl.Network, demands, flows []int64, told figures) outcome
}

func hydraulics() []hydraulic {
	list := func(values []int64, code int64) outcome { return outcome{values, code} }
	number := func(value, code int64) outcome { return outcome{[]int64{value}, code} }
	pair := func(a, b, code int64) outcome { return outcome{[]int64{a, b}, code} }
	return []hydraulic{
		{"TreeFlows", "source demands", func(n impl.Network, demands, _ []int64, f figures) outcome {
			return list(impl.TreeFlows(n, f.source, demands))
		}},
		{"BalanceAt", "node flows", func(n impl.Network, _, flows []int64, f figures) outcome {
			return number(impl.BalanceAt(n, flows, f.node))
		}},
		{"PressuresOf", "source pressure flows", func(n impl.Network, _, flows []int64, f figures) outcome {
			return list(impl.PressuresOf(n, f.source, flows, f.pressure))
		}},
		{"DifferencesOf", "source pressure flows", func(n impl.Network, _, flows []int64, f figures) outcome {
			return list(impl.DifferencesOf(n, f.source, flows, f.pressure))
		}},
		{"LeastHead", "source pressure demands", func(n impl.Network, demands, _ []int64, f figures) outcome {
			return number(impl.LeastHead(n, f.source, demands, f.pressure))
		}},
		{"WorstNode", "source pressure demands", func(n impl.Network, demands, _ []int64, f figures) outcome {
			return pair(impl.WorstNode(n, f.source, demands, f.pressure))
		}},
		{"DelayTo", "source node flows", func(n impl.Network, _, flows []int64, f figures) outcome {
			return number(impl.DelayTo(n, f.source, flows, f.node))
		}},
		{"NodeTemperatures", "source supply ground flows", func(n impl.Network, _, flows []int64, f figures) outcome {
			return list(impl.NodeTemperatures(n, f.source, flows, f.supply, f.ground))
		}},
	}
}

// checkFailed checks that a code comes alone.
func checkFailed(t *testing.T, got outcome, code int64, what string, arguments ...any) {
	t.Helper()
	if got.code != code || slices.ContainsFunc(got.values, func(n int64) bool { return n != 0 }) {
		t.Errorf("%s%+v = %+v, want the code %d", what, arguments, got, code)
	}
}

// wrongFigures are those with one number out of its range, named by this number.
func wrongFigures(nodes int) map[string][]figures {
	wrong := make(map[string][]figures)
	add := func(name string, numbers []int64, set func(*figures, int64)) {
		for _, number := range numbers {
			f := figures{pressure: 50000, supply: 8000, ground: 800}
			set(&f, number)
			wrong[name] = append(wrong[name], f)
		}
	}
	degrees := beyond(impl.MinDegrees, impl.MaxDegrees)
	add("source", beyond(0, int64(nodes)-1), func(f *figures, n int64) { f.source = n })
	add("node", beyond(0, int64(nodes)-1), func(f *figures, n int64) { f.node = n })
	add("pressure", beyond(0, impl.MaxPressure), func(f *figures, n int64) { f.pressure = n })
	add("supply", degrees, func(f *figures, n int64) { f.supply = n })
	add("ground", degrees, func(f *figures, n int64) { f.ground = n })
	return wrong
}

// wrongLists are no lists of so many numbers from low to high.
func wrongLists(count int, low, high int64) [][]int64 {
	good := make([]int64, count)
	lists := [][]int64{append(slices.Clone(good), 0), append(slices.Clone(good), 0, 0), make([]int64, 100000)}
	if count > 0 {
		lists = append(lists, good[1:], nil)
	}
	return append(lists, wrongAt(good, low, high)...)
}

// wrongAt are copies of a list, each with one number out of its limits.
func wrongAt(good []int64, low, high int64) [][]int64 {
	var lists [][]int64
	for _, number := range beyond(low, high) {
		for place := range good {
			list := slices.Clone(good)
			list[place] = number
			lists = append(lists, list)
		}
	}
	return lists
}

// extremes returns as many times the greatest flow.
func extremes(count int) []int64 { return slices.Repeat([]int64{impl.MaxFlow}, count) }

func TestHydraulicsRefuseInvalidNetworksFirst(t *testing.T) {
	for _, n := range invalidNetworks() {
		for _, h := range hydraulics() {
			for _, told := range []figures{{}, {-1, -1, -1, 20001, 20001}, {99, 99, impl.MaxPressure + 1, 0, -5001}} {
				got := h.of(n, make([]int64, len(n.Nodes)), make([]int64, len(n.Pipes)), told)
				checkFailed(t, got, impl.ErrInvalid, h.name, n, told)
				checkFailed(t, h.of(n, []int64{-1}, []int64{impl.MaxFlow + 1}, told), impl.ErrInvalid, h.name, n, told)
			}
		}
	}
}

func TestHydraulicsRefuseNumbersOutOfRange(t *testing.T) {
	for _, n := range append(noTrees(), networkOf(1), village(), lineOf(impl.MaxNodes)) {
		for _, h := range hydraulics() {
			for name, wrong := range wrongFigures(len(n.Nodes)) {
				if !strings.Contains(h.takes, name) {
					continue
				}
				for _, told := range wrong {
					got := h.of(n, make([]int64, len(n.Nodes)), make([]int64, len(n.Pipes)), told)
					checkFailed(t, got, impl.ErrRange, h.name, n, told)
					// Here the lists are not as stated either.
					checkFailed(t, h.of(n, []int64{-1}, []int64{impl.MaxFlow + 1}, told), impl.ErrRange, h.name, n, told)
				}
			}
		}
	}
}

func TestHydraulicsRefuseListsThatAreNotAsStated(t *testing.T) {
	told := figures{pressure: 50000, supply: 8000, ground: 800}
	for _, n := range append(noTrees(), networkOf(1), village(), lineOf(impl.MaxNodes)) {
		for _, h := range hydraulics() {
			if strings.Contains(h.takes, "demands") {
				for _, demands := range wrongLists(len(n.Nodes), 0, impl.MaxFlow) {
					got := h.of(n, demands, make([]int64, len(n.Pipes)), told)
					checkFailed(t, got, impl.ErrOrder, h.name, n, demands[:min(len(demands), 20)])
				}
				continue
			}
			for _, flows := range wrongLists(len(n.Pipes), -impl.MaxFlow, impl.MaxFlow) {
				got := h.of(n, make([]int64, len(n.Nodes)), flows, told)
				checkFailed(t, got, impl.ErrOrder, h.name, n, flows[:min(len(flows), 20)])
			}
		}
	}
}

func TestHydraulicsNeedTrees(t *testing.T) {
	told := figures{pressure: 50000, supply: 8000, ground: 800}
	for _, n := range noTrees() {
		// In narrow pipes, such flows would have too great drops, and such demands too great flows.
		narrow := impl.Network{Nodes: n.Nodes, Pipes: slices.Clone(n.Pipes)}
		for k := range narrow.Pipes {
			narrow.Pipes[k].Length, narrow.Pipes[k].Diameter = impl.MaxLength, impl.MinWidth
		}
		for _, h := range hydraulics() {
			want := int64(impl.ErrState)
			if h.name == "BalanceAt" {
				want = impl.OK
			}
			for _, other := range []impl.Network{n, narrow} {
				still := h.of(other, make([]int64, len(n.Nodes)), make([]int64, len(n.Pipes)), told)
				fast := h.of(other, extremes(len(n.Nodes)), extremes(len(n.Pipes)), told)
				if still.code != want || fast.code != want {
					t.Errorf("%s(%+v) gives %d and %d, want %d", h.name, other, still.code, fast.code, want)
				}
			}
		}
	}
	got, code := impl.DelayTo(networkOf(2), 0, nil, 1)
	checkCode(t, got, code, 0, impl.ErrState, "DelayTo", "a node that is not reached")
}

// Numbers just at their limits are taken by all functions.
func TestHydraulicsTakeTheirLimits(t *testing.T) {
	last := int64(impl.MaxNodes - 1)
	for _, n := range []impl.Network{networkOf(1), lineOf(impl.MaxNodes)} {
		node := min(last, int64(len(n.Nodes))-1)
		demands := demandAt(len(n.Nodes), node, impl.MaxFlow)
		for _, told := range []figures{
			{0, 0, 0, impl.MinDegrees, impl.MaxDegrees}, {node, node, impl.MaxPressure, impl.MaxDegrees, impl.MinDegrees},
			{node, 0, impl.MaxPressure, impl.MinDegrees, impl.MinDegrees}, {0, node, 0, impl.MaxDegrees, impl.MaxDegrees},
		} {
			flows, code := impl.TreeFlows(n, told.source, demandAt(len(n.Nodes), told.node, impl.MaxFlow))
			if code != impl.OK {
				t.Errorf("TreeFlows of the greatest demand gives %d", code)
			}
			for _, h := range hydraulics() {
				if got := h.of(n, demands, flows, told); got.code != impl.OK {
					t.Errorf("%s(%+v, %d, %d, %+v) gives %d", h.name, n, demands, flows, told, got.code)
				}
			}
		}
	}
}
