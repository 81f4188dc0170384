package tests

import (
	"slices"
	"strings"
	"testing"

	"loop.example/g01011/impl"
)

// Which errors the functions of chapter 11 return, and in which order.

// boilingFigures are the numbers that these functions take beside a network and lists.
type boilingFigures struct{ source, pressure, margin, limit, temperature int64 }

// boilingLists are the lists that they take.
type boilingLists struct{ pressures, degrees, flows []int64 }

// boilingCall is a function that takes some of the figures and lists, and perhaps a network.
type boilingCall struct {
	name, takes string
	of          func(n impl.Network, f boilingFigures, l boilingLists) outcome
}

func boilingCalls() []boilingCall {
	list := func(values []int64, code int64) outcome { return outcome{values, code} }
	number := func(value, code int64) outcome { return outcome{[]int64{value}, code} }
	pair := func(a, b, code int64) outcome { return outcome{[]int64{a, b}, code} }
	return []boilingCall{
		{"HottestWater", "pressure margin", func(_ impl.Network, f boilingFigures, _ boilingLists) outcome {
			return number(impl.HottestWater(f.pressure, f.margin))
		}},
		{"BoilingNodes", "margin pressures degrees", func(_ impl.Network, f boilingFigures, l boilingLists) outcome {
			return list(impl.BoilingNodes(l.pressures, l.degrees, f.margin))
		}},
		{"LeastMargin", "pressures degrees", func(_ impl.Network, _ boilingFigures, l boilingLists) outcome {
			return pair(impl.LeastMargin(l.pressures, l.degrees))
		}},
		{"SourcePressure", "network source margin flows waters", func(n impl.Network, f boilingFigures, l boilingLists) outcome {
			return number(impl.SourcePressure(n, f.source, l.flows, l.degrees, f.margin))
		}},
		{"StillPressure", "network source margin temperature", func(n impl.Network, f boilingFigures, _ boilingLists) outcome {
			return number(impl.StillPressure(n, f.source, f.temperature, f.margin))
		}},
		{"TooHigh", "limit pressures", func(_ impl.Network, f boilingFigures, l boilingLists) outcome {
			return list(impl.TooHigh(l.pressures, f.limit))
		}},
		{"PressureRoom", "margin limit pressures degrees", func(_ impl.Network, f boilingFigures, l boilingLists) outcome {
			return pair(impl.PressureRoom(l.pressures, l.degrees, f.margin, f.limit))
		}},
	}
}

func (c boilingCall) doesTake(name string) bool {
	return slices.Contains(strings.Fields(c.takes), name)
}

// ordinaryBoiling are figures that are in their ranges for each network.
func ordinaryBoiling() boilingFigures {
	return boilingFigures{pressure: 300000, margin: 1000, limit: 1000000, temperature: 8000}
}

// ordinaryWater are lists for a network, in which no water boils.
func ordinaryWater(n impl.Network) boilingLists {
	return boilingLists{alike(300000, len(n.Nodes)), alike(8000, len(n.Nodes)), make([]int64, len(n.Pipes))}
}

// wrongBoiling are figures with one number out of its range, named by this number.
func wrongBoiling(nodes int) map[string][]boilingFigures {
	wrong := make(map[string][]boilingFigures)
	add := func(name string, low, high int64, set func(*boilingFigures, int64)) {
		for _, number := range append(beyond(low, high), low-2, high+2) {
			f := ordinaryBoiling()
			set(&f, number)
			wrong[name] = append(wrong[name], f)
		}
	}
	add("source", 0, int64(nodes)-1, func(f *boilingFigures, n int64) { f.source = n })
	add("pressure", 0, impl.MaxPressure, func(f *boilingFigures, n int64) { f.pressure = n })
	add("margin", 0, impl.MaxMargin, func(f *boilingFigures, n int64) { f.margin = n })
	add("limit", 0, impl.MaxPressure, func(f *boilingFigures, n int64) { f.limit = n })
	add("temperature", impl.MinWater, impl.MaxWater, func(f *boilingFigures, n int64) { f.temperature = n })
	return wrong
}

// worstBoiling has all numbers out of their ranges.
func worstBoiling() boilingFigures {
	return boilingFigures{-1, -1, impl.MaxMargin + 1, -1, impl.MaxWater + 1}
}

// boilingNetworks are valid ones, both trees and others.
func boilingNetworks() []impl.Network {
	return append(noTrees(), networkOf(1), village(), lineOf(impl.MaxNodes), pressedChain())
}

func TestBoilingTakesOrdinaryArguments(t *testing.T) {
	for _, n := range []impl.Network{networkOf(1), village(), lineOf(impl.MaxNodes)} {
		for _, c := range boilingCalls() {
			if got := c.of(n, ordinaryBoiling(), ordinaryWater(n)); got.code != impl.OK {
				t.Errorf("%s(%+v) gives %d", c.name, n, got.code)
			}
			for name, wrong := range wrongBoiling(len(n.Nodes)) {
				for _, f := range wrong {
					// What a function does not take makes no difference.
					if got := c.of(n, f, ordinaryWater(n)); !c.doesTake(name) && got.code != impl.OK {
						t.Errorf("%s(%+v, %+v) gives %d", c.name, n, f, got.code)
					}
				}
			}
		}
	}
}

func TestBoilingRefusesInvalidNetworksFirst(t *testing.T) {
	for _, n := range invalidNetworks() {
		for _, c := range boilingCalls() {
			if !c.doesTake("network") {
				continue
			}
			for _, f := range []boilingFigures{{}, ordinaryBoiling(), worstBoiling()} {
				checkFailed(t, c.of(n, f, ordinaryWater(n)), impl.ErrInvalid, c.name, n, f)
				checkFailed(t, c.of(n, f, boilingLists{nil, []int64{-1}, []int64{impl.MaxFlow + 1}}), impl.ErrInvalid, c.name, n, f)
			}
		}
	}
}

func TestBoilingRefusesNumbersOutOfRange(t *testing.T) {
	for _, n := range boilingNetworks() {
		for _, c := range boilingCalls() {
			for name, wrong := range wrongBoiling(len(n.Nodes)) {
				if !c.doesTake(name) {
					continue
				}
				for _, f := range wrong {
					checkFailed(t, c.of(n, f, ordinaryWater(n)), impl.ErrRange, c.name, n, f)
					// Here the lists are of different lengths, too long, empty or out of their ranges as well.
					for _, l := range []boilingLists{{}, {alike(0, 3), alike(0, 2), nil}, {alike(0, 17), alike(0, 17), nil}, {[]int64{1}, []int64{-1}, []int64{100001}}} {
						checkFailed(t, c.of(n, f, l), impl.ErrRange, c.name, n, f, l)
					}
				}
			}
		}
	}
}

// Numbers of lists are checked before it is told that there are too many, or not as many of both.
func TestBoilingRefusesListsOutOfRange(t *testing.T) {
	for _, count := range []int{1, 3, impl.MaxNodes, impl.MaxNodes + 1} {
		good := alike(0, count)
		for _, c := range boilingCalls() {
			for _, other := range [][]int64{good, nil, alike(0, 2)} {
				for _, wrong := range wrongAt(good, -impl.MaxPressure, impl.MaxPressure) {
					if c.doesTake("pressures") {
						checkFailed(t, c.of(impl.Network{}, ordinaryBoiling(), boilingLists{wrong, other, nil}), impl.ErrRange, c.name, wrong, other)
					}
				}
				for _, wrong := range wrongAt(good, impl.MinWater, impl.MaxWater) {
					if c.doesTake("degrees") {
						checkFailed(t, c.of(impl.Network{}, ordinaryBoiling(), boilingLists{other, wrong, nil}), impl.ErrRange, c.name, other, wrong)
					}
				}
			}
		}
	}
}

func TestBoilingRefusesListsOfOtherLengths(t *testing.T) {
	lengths := []int{0, 1, 2, impl.MaxNodes - 1, impl.MaxNodes, impl.MaxNodes + 1, 1000}
	for _, a := range lengths {
		for _, b := range lengths {
			for _, c := range boilingCalls() {
				if !c.doesTake("pressures") {
					continue
				}
				// This comes before the errors of lists without nodes, and of numbers that cannot be found.
				f := boilingFigures{margin: impl.MaxMargin}
				got := c.of(impl.Network{}, f, boilingLists{alike(impl.MaxPressure, a), alike(impl.MaxWater, b), nil})
				isAsStated := a <= impl.MaxNodes && (a == b || !c.doesTake("degrees"))
				if !isAsStated {
					checkFailed(t, got, impl.ErrOrder, c.name, a, b)
				} else if got.code == impl.ErrOrder {
					t.Errorf("%s of %d pressures and %d temperatures gives %d", c.name, a, b, got.code)
				}
			}
		}
	}
}

func TestSourcePressureRefusesListsThatAreNotAsStated(t *testing.T) {
	for _, n := range boilingNetworks() {
		f, l := ordinaryBoiling(), ordinaryWater(n)
		for _, flows := range wrongLists(len(n.Pipes), -impl.MaxFlow, impl.MaxFlow) {
			got, code := impl.SourcePressure(n, f.source, flows, l.degrees, f.margin)
			checkCode(t, got, code, 0, impl.ErrOrder, "SourcePressure", n, len(flows))
		}
		for _, degrees := range wrongLists(len(n.Nodes), impl.MinWater, impl.MaxWater) {
			for _, flows := range [][]int64{l.flows, extremes(len(n.Pipes))} {
				// In some of these networks such flows have too great drops, which is told of later.
				got, code := impl.SourcePressure(n, f.source, flows, degrees, f.margin)
				checkCode(t, got, code, 0, impl.ErrOrder, "SourcePressure", n, flows, len(degrees))
			}
		}
	}
}

func TestSourcePressureNeedsATreeAndDrops(t *testing.T) {
	for _, n := range noTrees() {
		narrow := impl.Network{Nodes: n.Nodes, Pipes: slices.Clone(n.Pipes)}
		for k := range narrow.Pipes {
			narrow.Pipes[k].Length, narrow.Pipes[k].Diameter = impl.MaxLength, impl.MinWidth
		}
		for _, flows := range [][]int64{make([]int64, len(n.Pipes)), extremes(len(n.Pipes))} {
			got, code := impl.SourcePressure(narrow, 0, flows, alike(8000, len(n.Nodes)), 0)
			checkCode(t, got, code, 0, impl.ErrState, "SourcePressure", narrow, flows)
		}
		still, code := impl.StillPressure(n, 0, 8000, 0)
		if code != impl.OK {
			t.Errorf("StillPressure(%+v) = %d, %d", n, still, code)
		}
	}
	n := pressedChain()
	for k := range n.Pipes {
		for _, flow := range []int64{pressedFlow + 1, -pressedFlow - 1, impl.MaxFlow, -impl.MaxFlow} {
			flows := make([]int64, len(n.Pipes))
			flows[k] = flow
			for source := range int64(len(n.Nodes)) {
				got, code := impl.SourcePressure(n, source, flows, alike(8000, len(n.Nodes)), 0)
				checkCode(t, got, code, 0, impl.ErrFull, "SourcePressure", source, flows)
			}
		}
	}
}

// Numbers just at their limits are taken by all functions.
func TestBoilingTakesItsLimits(t *testing.T) {
	for _, n := range []impl.Network{networkOf(1), lineOf(impl.MaxNodes)} {
		last := int64(len(n.Nodes)) - 1
		for _, f := range []boilingFigures{
			{0, impl.MinSteam, 0, impl.MaxPressure, impl.MinWater}, {last, impl.MaxPressure, impl.MaxMargin, impl.MaxPressure, impl.MaxWater},
		} {
			for _, flow := range []int64{impl.MaxFlow, -impl.MaxFlow} {
				for _, l := range []boilingLists{
					{alike(impl.MaxPressure, len(n.Nodes)), alike(impl.MaxWater, len(n.Nodes)), slices.Repeat([]int64{flow}, len(n.Pipes))},
					{alike(-impl.MaxPressure, len(n.Nodes)), alike(impl.MinWater, len(n.Nodes)), slices.Repeat([]int64{flow}, len(n.Pipes))},
				} {
					for _, c := range boilingCalls() {
						if got := c.of(n, f, l); got.code != impl.OK {
							t.Errorf("%s(%+v, %+v, %+v) gives %d", c.name, n, f, l, got.code)
						}
					}
				}
			}
		}
	}
}
