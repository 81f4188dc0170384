package tests

import (
	"math/rand"
	"slices"
	"testing"

	"loop.example/g01011/impl"
)

// Promise 12: at the least pressure of a source nothing boils, and below it something does.

// hillOf returns a line of nodes with these elevations.
func hillOf(elevations ...int64) impl.Network {
	n := lineOf(len(elevations))
	n.Nodes = elevations
	return n
}

// boilsAt reports whether water boils at a node if a source has a pressure, which may be greater than any pressure.
func boilsAt(n impl.Network, source int64, flows, degrees []int64, margin, pressure int64) bool {
	for node, there := range exactPressures(n, source, flows, pressure) {
		if there < steamOf(degrees[node])+margin {
			return true
		}
	}
	return false
}

func TestSourcePressureWithoutFlows(t *testing.T) {
	const steam, most = airSteam, impl.MaxMargin
	cases := []struct {
		elevations   []int64
		source       int64
		margin, want int64
	}{
		// The example of the document, and the other way round, where the source lies above all nodes.
		{[]int64{0, 1000}, 0, 0, steam + 98100}, {[]int64{0, 1000}, 1, 0, steam},
		{[]int64{-500, 500}, 0, 7, steam + 98107}, {[]int64{-500, 500}, 1, 7, steam + 7},
		// Nodes above the source and below it, near it and behind others.
		{[]int64{0, 1000, -1000}, 0, 0, steam + 98100}, {[]int64{0, -1000, 1000}, 0, 0, steam + 98100},
		{[]int64{0, 1000, -1000}, 1, 0, steam}, {[]int64{0, 1000, -1000}, 2, 0, steam + 196200},
		{[]int64{300, 200, 100, 0}, 0, 0, steam}, {[]int64{300, 200, 100, 0}, 3, 0, steam + 29430}, {[]int64{300, 200, 100, 0}, 2, 0, steam + 19620},
		// All elevations are the same.
		{alike(0, impl.MaxNodes), 0, 0, steam}, {alike(impl.MaxElevation, 5), 3, 0, steam}, {alike(-impl.MaxElevation, 5), 4, most, steam + most},
		{[]int64{-impl.MaxElevation, impl.MaxElevation}, 0, 0, steam + 19620000}, {[]int64{-impl.MaxElevation, impl.MaxElevation}, 0, most, steam + 19620000 + most},
		{[]int64{-impl.MaxElevation, impl.MaxElevation}, 1, 0, steam},
		// What each pipe rises by is rounded for itself: 490.5 becomes 491, three times.
		{[]int64{0, 5, 10, 15}, 0, 0, steam + 1473}, {[]int64{0, 5, 10, 15}, 1, 0, steam + 982}, {[]int64{0, 5, 0, 5}, 0, 0, steam + 491},
		{[]int64{77}, 0, 0, steam}, {[]int64{77}, 0, most, steam + most},
	}
	for _, c := range cases {
		n := hillOf(c.elevations...)
		got, code := impl.SourcePressure(n, c.source, make([]int64, len(n.Pipes)), alike(airTemperature, len(n.Nodes)), c.margin)
		checkCode(t, got, code, c.want, impl.OK, "SourcePressure", c.elevations, c.source, c.margin)
	}
}

func TestSourcePressureOfTemperatures(t *testing.T) {
	flat, hill := hillOf(0, 0, 0), hillOf(0, 1000, -1000)
	cases := []struct {
		n       impl.Network
		source  int64
		degrees []int64
		want    int64
	}{
		{flat, 0, []int64{0, airTemperature, 5000}, airSteam}, {flat, 1, []int64{0, airTemperature, 5000}, airSteam},
		{flat, 0, []int64{airTemperature, 0, 0}, airSteam}, {flat, 0, []int64{0, 0, airTemperature}, airSteam},
		{flat, 2, alike(impl.MaxWater, 3), hotSteam},
		// No pressure is less than that of the steam of the coldest water, as water is at the source as well.
		{flat, 0, alike(impl.MinWater, 3), impl.MinSteam}, {hillOf(impl.MaxElevation, -impl.MaxElevation), 0, alike(700, 2), impl.MinSteam},
		{networkOf(1), 0, []int64{impl.MinWater}, impl.MinSteam}, {networkOf(1), 0, []int64{impl.MaxWater}, hotSteam},
		// Hot water at a low node needs more than cold water at a high one, and the other way round.
		{hill, 0, []int64{0, 0, impl.MaxWater}, hotSteam - 98100}, {hill, 0, []int64{0, airTemperature, airTemperature + 1}, airSteam + 98100},
		{hill, 1, []int64{0, 0, impl.MaxWater}, hotSteam - 196200}, {hill, 1, []int64{airTemperature, airTemperature, 0}, airSteam},
		{hill, 2, []int64{airTemperature, 0, 0}, airSteam + 98100}, {hill, 2, []int64{0, 0, airTemperature}, impl.MinSteam + 196200},
	}
	for _, c := range cases {
		got, code := impl.SourcePressure(c.n, c.source, make([]int64, len(c.n.Pipes)), c.degrees, 0)
		checkCode(t, got, code, c.want, impl.OK, "SourcePressure", c.n.Nodes, c.source, c.degrees)
	}
}

func TestSourcePressureOfFlows(t *testing.T) {
	const steam, most = airSteam, impl.MaxPressure
	line, _ := impl.ReadNetwork("0,0,0/a 0,1,500,100,300/b 2,1,500,100,300")
	steep, _ := impl.ReadNetwork("0,1000,-500/a 0,1,500,100,300/b 2,1,200,80,300")
	cases := []struct {
		n      impl.Network
		source int64
		flows  []int64
		want   int64
	}{
		// Each pipe takes 20250, and water that comes to the source has more pressure before.
		{line, 0, []int64{5000, -5000}, steam + 40500}, {line, 2, []int64{-5000, 5000}, steam + 40500}, {line, 1, []int64{-5000, -5000}, steam + 20250},
		{line, 0, []int64{-5000, 5000}, steam}, {line, 0, []int64{5000, 5000}, steam + 20250}, {line, 1, []int64{5000, 5000}, steam},
		{line, 1, []int64{5000, -5000}, steam + 20250}, {line, 0, []int64{0, -5000}, steam + 20250},
		{steep, 0, []int64{1400, -900}, steam + 99688}, {steep, 1, []int64{-1400, -900}, steam}, {steep, 2, []int64{-1400, 500}, steam + 147397},
		// The pressure may be greater than any pressure.
		{pressedChain(), 0, awayFlows(pressedFlow), steam + 15*most}, {pressedChain(), 8, awayFlows(pressedFlow), steam + 7*most},
		{pressedChain(), 15, awayFlows(pressedFlow), steam}, {pressedChain(), 15, awayFlows(-pressedFlow), steam + 15*most},
		{pressedChain(), 0, awayFlows(-pressedFlow), steam}, {pressedChain(), 14, awayFlows(pressedFlow), steam + most},
	}
	for _, c := range cases {
		got, code := impl.SourcePressure(c.n, c.source, c.flows, alike(airTemperature, len(c.n.Nodes)), 0)
		checkCode(t, got, code, c.want, impl.OK, "SourcePressure", c.n, c.source, c.flows)
		if boilsAt(c.n, c.source, c.flows, alike(airTemperature, len(c.n.Nodes)), 0, got) {
			t.Errorf("with %d at %d water boils in %+v with %d", got, c.source, c.n, c.flows)
		}
	}
}

func TestAtTheLeastPressureNothingBoils(t *testing.T) {
	random := rand.New(rand.NewSource(124))
	refused, compared := 0, 0
	for range 2000 {
		n := randomDistrict(random)
		source, flows, margin := random.Int63n(int64(len(n.Nodes))), randomFlows(random, len(n.Pipes)), randomMargin(random)
		degrees := randomWater(random, len(n.Nodes))
		got, code := impl.SourcePressure(n, source, flows, degrees, margin)
		if !hasDrops(n, flows) {
			checkCode(t, got, code, 0, impl.ErrFull, "SourcePressure", n, source, flows)
			refused++
			continue
		}
		if code != impl.OK || boilsAt(n, source, flows, degrees, margin, got) || !boilsAt(n, source, flows, degrees, margin, got-1) {
			t.Errorf("SourcePressure(%+v, %d, %d, %d, %d) = %d, %d", n, source, flows, degrees, margin, got, code)
		}
		// The same is told by the functions of the program, where all pressures are within their limits.
		enough, isShown := boilingIn(n, source, flows, degrees, margin, got)
		short, isShownToo := boilingIn(n, source, flows, degrees, margin, got-1)
		if !isShown || !isShownToo {
			continue
		}
		compared++
		if len(enough) > 0 || len(short) == 0 {
			t.Errorf("with %d at %d water boils at %d in %+v, and with 1 less at %d", got, source, enough, n, short)
		}
	}
	if refused < 100 || compared < 500 {
		t.Errorf("%d flows have too great a drop, %d pressures are compared", refused, compared)
	}
}

// boilingIn returns where BoilingNodes finds that water boils with the pressures of PressuresOf, and whether it can tell.
func boilingIn(n impl.Network, source int64, flows, degrees []int64, margin, pressure int64) ([]int64, bool) {
	pressures, code := impl.PressuresOf(n, source, flows, pressure)
	if code != impl.OK {
		return nil, false
	}
	boiling, code := impl.BoilingNodes(pressures, degrees, margin)
	return boiling, code == impl.OK
}

func TestStillPressure(t *testing.T) {
	const steam, most = airSteam, impl.MaxMargin
	ring, apart := networkOf(3, [2]int64{0, 1}, [2]int64{1, 2}, [2]int64{2, 0}), networkOf(3)
	ring.Nodes, apart.Nodes = []int64{0, 1000, -500}, []int64{0, 1000, -500}
	cases := []struct {
		n                             impl.Network
		source, degrees, margin, want int64
	}{
		{hillOf(0, 1000), 0, airTemperature, 0, steam + 98100}, {hillOf(0, 1000), 1, airTemperature, 0, steam},
		{hillOf(0, 1000, -500), 0, airTemperature, 0, steam + 98100}, {hillOf(0, 1000, -500), 1, airTemperature, 7, steam + 7},
		{hillOf(0, 1000, -500), 2, airTemperature, 0, steam + 147150}, {hillOf(300, 200, 100), 0, airTemperature, 0, steam},
		{hillOf(-300, -200, -100), 0, airTemperature, 0, steam + 19620},
		// All elevations are the same.
		{hillOf(9, 9, 9), 1, airTemperature, 0, steam}, {hillOf(alike(-impl.MaxElevation, impl.MaxNodes)...), 15, 0, 0, impl.MinSteam},
		{hillOf(-impl.MaxElevation, impl.MaxElevation), 0, impl.MaxWater, most, hotSteam + most + 19620000},
		{hillOf(-impl.MaxElevation, impl.MaxElevation), 1, impl.MinWater, 0, impl.MinSteam}, {networkOf(1), 0, 700, most, impl.MinSteam + most},
		// The whole difference is rounded at once: 490.5, 981, 1471.5 and 98.1.
		{hillOf(0, 5), 0, airTemperature, 0, steam + 491}, {hillOf(0, 5, 10), 0, airTemperature, 0, steam + 981},
		{hillOf(0, 5, 10, 15), 0, airTemperature, 0, steam + 1472}, {hillOf(10, 11), 0, airTemperature, 0, steam + 98},
		// It needs no tree, and counts nodes to which no pipe leads.
		{ring, 0, airTemperature, 0, steam + 98100}, {ring, 2, airTemperature, 0, steam + 147150}, {apart, 0, airTemperature, 0, steam + 98100},
		{apart, 1, airTemperature, 0, steam}, {largestNetwork(), 1, impl.MaxWater, most, hotSteam + most + 19620000},
	}
	for _, c := range cases {
		got, code := impl.StillPressure(c.n, c.source, c.degrees, c.margin)
		checkCode(t, got, code, c.want, impl.OK, "StillPressure", c.n.Nodes, c.source, c.degrees, c.margin)
	}
	random := rand.New(rand.NewSource(125))
	for range 1000 {
		n := randomDistrict(random)
		for node := range n.Nodes {
			// With these elevations nothing has to be rounded.
			n.Nodes[node] -= n.Nodes[node] % 10
		}
		source, degrees, margin := random.Int63n(int64(len(n.Nodes))), random.Int63n(impl.MaxWater+1), randomMargin(random)
		still, stillCode := impl.StillPressure(n, source, degrees, margin)
		want := steamOf(degrees) + margin + 981*(slices.Max(n.Nodes)-n.Nodes[source])/10
		checkCode(t, still, stillCode, want, impl.OK, "StillPressure", n.Nodes, source, degrees, margin)
		got, code := impl.SourcePressure(n, source, make([]int64, len(n.Pipes)), alike(degrees, len(n.Nodes)), margin)
		checkCode(t, got, code, want, impl.OK, "SourcePressure", n.Nodes, source, degrees, margin)
	}
}
