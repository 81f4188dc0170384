package tests

import (
	"math/rand"
	"slices"
	"testing"

	"loop.example/g01011/impl"
)

// Where water boils, how far it is from it, and by how much pressures may be changed.

const (
	// The pressure of steam for the hottest water; that for the coldest one is MinSteam.
	hotSteam = 1002847
	// At this temperature, steam has the pressure of air.
	airTemperature, airSteam = 9961, 101311
)

// steamOf is the least pressure without a margin, of which the tests of chapter 2 show that it is the least one.
func steamOf(temperature int64) int64 {
	pressure, _ := impl.SteamPressure(temperature)
	return pressure
}

// steamTable has the pressure of steam for all temperatures of water.
func steamTable() []int64 {
	var table []int64
	for temperature := int64(impl.MinWater); temperature <= impl.MaxWater; temperature++ {
		table = append(table, steamOf(temperature))
	}
	return table
}

// alike returns the same number for so many nodes.
func alike(number int64, nodes int) []int64 { return slices.Repeat([]int64{number}, nodes) }

// randomWater returns temperatures of water, some of which are extreme.
func randomWater(random *rand.Rand, nodes int) []int64 {
	degrees := make([]int64, nodes)
	for node := range degrees {
		switch random.Intn(8) {
		case 0:
			degrees[node] = impl.MinWater
		case 1:
			degrees[node] = impl.MaxWater
		default:
			degrees[node] = random.Int63n(impl.MaxWater + 1)
		}
	}
	return degrees
}

// nearBoiling returns pressures some of which are just enough, or just not, for a margin.
func nearBoiling(random *rand.Rand, degrees []int64, margin int64) []int64 {
	pressures := make([]int64, len(degrees))
	for node, temperature := range degrees {
		pressures[node] = steamOf(temperature) + margin + random.Int63n(3) - 1
		if random.Intn(3) == 0 {
			pressures[node] += (random.Int63n(2*impl.MaxMargin+1) - impl.MaxMargin) >> random.Intn(20)
		}
	}
	return pressures
}

func randomMargin(random *rand.Rand) int64 {
	return random.Int63n(impl.MaxMargin+1) >> random.Intn(21)
}

func TestHottestWater(t *testing.T) {
	const most = impl.MaxMargin
	cases := []struct{ pressure, margin, want, code int64 }{
		{airSteam, 0, airTemperature, impl.OK}, {airSteam - 1, 0, airTemperature - 1, impl.OK},
		{airSteam + 7, 7, airTemperature, impl.OK}, {airSteam + 6, 7, airTemperature - 1, impl.OK},
		// The least pressure of steam is enough for several temperatures.
		{impl.MinSteam, 0, 700, impl.OK}, {impl.MinSteam + 1, 1, 700, impl.OK}, {impl.MinSteam + most, most, 700, impl.OK},
		{impl.MinSteam + 1, 0, 701, impl.OK},
		// No temperature is low enough.
		{impl.MinSteam - 1, 0, 0, impl.ErrNotFound}, {impl.MinSteam, 1, 0, impl.ErrNotFound}, {0, 0, 0, impl.ErrNotFound},
		{0, most, 0, impl.ErrNotFound}, {most, most, 0, impl.ErrNotFound}, {impl.MinSteam + most - 1, most, 0, impl.ErrNotFound},
		{hotSteam, 0, impl.MaxWater, impl.OK}, {hotSteam - 1, 0, impl.MaxWater - 1, impl.OK}, {hotSteam + 1, 0, impl.MaxWater, impl.OK},
		{hotSteam + most, most, impl.MaxWater, impl.OK}, {hotSteam + most - 1, most, impl.MaxWater - 1, impl.OK},
		{impl.MaxSteam, 0, impl.MaxWater, impl.OK}, {impl.MaxSteam + 1, 0, impl.MaxWater, impl.OK},
		{impl.MaxPressure, 0, impl.MaxWater, impl.OK}, {impl.MaxPressure, most, impl.MaxWater, impl.OK},
	}
	for _, c := range cases {
		got, code := impl.HottestWater(c.pressure, c.margin)
		checkCode(t, got, code, c.want, c.code, "HottestWater", c.pressure, c.margin)
	}
}

func TestHottestWaterIsTheHighestOne(t *testing.T) {
	random, table := rand.New(rand.NewSource(120)), steamTable()
	for range 2000 {
		margin := randomMargin(random)
		pressure := max(0, table[random.Intn(len(table))]+margin+random.Int63n(3)-1)
		if random.Intn(8) == 0 {
			pressure = random.Int63n(margin + 2*impl.MinSteam)
		}
		want, wantCode := int64(0), int64(impl.ErrNotFound)
		for temperature, steam := range table {
			if steam+margin <= pressure {
				want, wantCode = int64(temperature), impl.OK
			}
		}
		got, code := impl.HottestWater(pressure, margin)
		checkCode(t, got, code, want, wantCode, "HottestWater", pressure, margin)
	}
}

func TestBoilingNodes(t *testing.T) {
	const most = impl.MaxMargin
	cases := []struct {
		pressures, degrees []int64
		margin             int64
		want               []int64
	}{
		{[]int64{airSteam, airSteam - 1}, alike(airTemperature, 2), 0, []int64{1}},
		{[]int64{airSteam + 99, airSteam + 100}, alike(airTemperature, 2), 100, []int64{0}},
		{[]int64{impl.MinSteam, impl.MinSteam - 1, impl.MinSteam}, []int64{0, 0, 701}, 0, []int64{1, 2}},
		{[]int64{hotSteam, hotSteam - 1, hotSteam - 1}, []int64{impl.MaxWater, impl.MaxWater, impl.MaxWater - 1}, 0, []int64{1}},
		{[]int64{hotSteam + most, hotSteam + most - 1}, alike(impl.MaxWater, 2), most, []int64{1}},
		{[]int64{impl.MinSteam + most - 1, impl.MinSteam + most}, alike(impl.MinWater, 2), most, []int64{0}},
		{[]int64{-impl.MaxPressure, impl.MaxPressure, 0, -1}, []int64{0, impl.MaxWater, 0, 0}, 0, []int64{0, 2, 3}},
		{[]int64{-impl.MaxPressure, impl.MaxPressure}, []int64{0, impl.MaxWater}, most, []int64{0}},
		// What counts is the temperature of the same node.
		{[]int64{airSteam, 500000, 2000}, []int64{airTemperature + 1, 15000, 1750}, 0, []int64{0}},
		{[]int64{2000, 500000, airSteam}, []int64{airTemperature + 1, 15000, 1750}, 0, []int64{0}},
		{nil, nil, 0, nil}, {nil, nil, most, nil},
		{alike(impl.MinSteam-1, impl.MaxNodes), alike(0, impl.MaxNodes), 0, first(impl.MaxNodes)},
		{alike(impl.MinSteam, impl.MaxNodes), alike(0, impl.MaxNodes), 0, nil},
	}
	for _, c := range cases {
		got, code := impl.BoilingNodes(c.pressures, c.degrees, c.margin)
		checkIndices(t, got, code, c.want, "BoilingNodes", c.pressures, c.degrees, c.margin)
	}
	random := rand.New(rand.NewSource(121))
	for range 1000 {
		margin, degrees := randomMargin(random), randomWater(random, random.Intn(impl.MaxNodes+1))
		pressures := nearBoiling(random, degrees, margin)
		var want []int64
		for node, pressure := range pressures {
			if pressure < steamOf(degrees[node])+margin {
				want = append(want, int64(node))
			}
		}
		got, code := impl.BoilingNodes(pressures, degrees, margin)
		checkIndices(t, got, code, want, "BoilingNodes", pressures, degrees, margin)
	}
}

// checkLeast compares what LeastMargin returns with a node, a margin and a code.
func checkLeast(t *testing.T, pressures, degrees []int64, want [3]int64) {
	t.Helper()
	node, margin, code := impl.LeastMargin(pressures, degrees)
	if got := [3]int64{node, margin, code}; got != want {
		t.Errorf("LeastMargin(%d, %d) = %d, want %d", pressures, degrees, got, want)
	}
}

func TestLeastMargin(t *testing.T) {
	cases := []struct {
		pressures, degrees []int64
		want               [3]int64
	}{
		{[]int64{airSteam, airSteam - 1}, alike(airTemperature, 2), [3]int64{1, -1, impl.OK}},
		{[]int64{airSteam}, alike(airTemperature, 1), [3]int64{0, 0, impl.OK}},
		// Several nodes have the least number, with the same temperature and with others.
		{[]int64{1009, 1005, 1005, 1005}, alike(0, 4), [3]int64{1, 5, impl.OK}},
		{[]int64{1005, 1005, hotSteam + 5}, []int64{0, 700, impl.MaxWater}, [3]int64{0, 5, impl.OK}},
		{[]int64{hotSteam + 6, hotSteam + 5, airSteam + 5, 1005}, []int64{impl.MaxWater, impl.MaxWater, airTemperature, 3}, [3]int64{1, 5, impl.OK}},
		// The least pressure is not the one that is nearest to steam.
		{[]int64{5000, 200000, 900000}, []int64{0, airTemperature, impl.MaxWater}, [3]int64{2, 900000 - hotSteam, impl.OK}},
		{[]int64{-impl.MaxPressure}, []int64{impl.MaxWater}, [3]int64{0, -impl.MaxPressure - hotSteam, impl.OK}},
		{[]int64{impl.MaxPressure}, []int64{impl.MinWater}, [3]int64{0, impl.MaxPressure - impl.MinSteam, impl.OK}},
		{[]int64{impl.MaxPressure, -impl.MaxPressure}, []int64{impl.MaxWater, impl.MinWater}, [3]int64{1, -impl.MaxPressure - impl.MinSteam, impl.OK}},
		{alike(7, impl.MaxNodes), alike(0, impl.MaxNodes), [3]int64{0, 7 - impl.MinSteam, impl.OK}},
		{append(alike(7, impl.MaxNodes-1), 6), alike(0, impl.MaxNodes), [3]int64{impl.MaxNodes - 1, 6 - impl.MinSteam, impl.OK}},
		{nil, nil, [3]int64{0, 0, impl.ErrNotFound}}, {[]int64{}, nil, [3]int64{0, 0, impl.ErrNotFound}},
	}
	for _, c := range cases {
		checkLeast(t, c.pressures, c.degrees, c.want)
	}
	random := rand.New(rand.NewSource(122))
	for range 1000 {
		degrees := randomWater(random, 1+random.Intn(impl.MaxNodes))
		pressures := nearBoiling(random, degrees, 0)
		node := int64(len(degrees) - 1)
		left := func(node int64) int64 { return pressures[node] - steamOf(degrees[node]) }
		for other := node; other >= 0; other-- {
			if left(other) <= left(node) {
				node = other
			}
		}
		checkLeast(t, pressures, degrees, [3]int64{node, left(node), impl.OK})
		// With this margin no water boils, and with a little more it does, at first at this node.
		if least := left(node); least >= 0 {
			none, code := impl.BoilingNodes(pressures, degrees, least)
			checkIndices(t, none, code, nil, "BoilingNodes", pressures, degrees, least)
			some, code := impl.BoilingNodes(pressures, degrees, least+1)
			if len(some) == 0 || some[0] != node || code != impl.OK {
				t.Errorf("BoilingNodes(%d, %d, %d) = %d, %d, want %d first", pressures, degrees, least+1, some, code, node)
			}
		}
	}
}

func TestTooHigh(t *testing.T) {
	cases := []struct {
		pressures []int64
		limit     int64
		want      []int64
	}{
		{[]int64{5, 10, 20}, 9, []int64{1, 2}}, {[]int64{20, 10, 5}, 9, []int64{0, 1}}, {[]int64{9, 10, 11}, 10, []int64{2}},
		{[]int64{-impl.MaxPressure, -1, 0, 1, impl.MaxPressure}, 0, []int64{3, 4}},
		{[]int64{impl.MaxPressure}, impl.MaxPressure, nil}, {[]int64{impl.MaxPressure}, impl.MaxPressure - 1, []int64{0}},
		{[]int64{-impl.MaxPressure}, 0, nil}, {nil, 0, nil}, {nil, impl.MaxPressure, nil},
		{alike(8, impl.MaxNodes), 7, first(impl.MaxNodes)}, {alike(8, impl.MaxNodes), 8, nil},
	}
	for _, c := range cases {
		got, code := impl.TooHigh(c.pressures, c.limit)
		checkIndices(t, got, code, c.want, "TooHigh", c.pressures, c.limit)
	}
}

// checkRoom compares what PressureRoom returns with the least and the greatest number and a code.
func checkRoom(t *testing.T, pressures, degrees []int64, margin, limit int64, want [3]int64) {
	t.Helper()
	least, greatest, code := impl.PressureRoom(pressures, degrees, margin, limit)
	if got := [3]int64{least, greatest, code}; got != want {
		t.Errorf("PressureRoom(%d, %d, %d, %d) = %d, want %d", pressures, degrees, margin, limit, got, want)
	}
}

func TestPressureRoom(t *testing.T) {
	const most = impl.MaxMargin
	cases := []struct {
		pressures, degrees []int64
		margin, limit      int64
		want               [3]int64
	}{
		{[]int64{airSteam, 200000}, alike(airTemperature, 2), 100, 300000, [3]int64{100, 100000, impl.OK}},
		{[]int64{airSteam, 200000}, alike(airTemperature, 2), 100, 150000, [3]int64{0, 0, impl.ErrNotFound}},
		// Just one number can be added, or none.
		{[]int64{2000, 5000}, alike(0, 2), 0, 4000, [3]int64{-1000, -1000, impl.OK}},
		{[]int64{2000, 5000}, alike(0, 2), 0, 3999, [3]int64{0, 0, impl.ErrNotFound}},
		{[]int64{2000, 5000}, alike(0, 2), 0, 4001, [3]int64{-1000, -999, impl.OK}},
		{[]int64{2000, 5000}, alike(0, 2), 1, 4000, [3]int64{0, 0, impl.ErrNotFound}},
		{[]int64{impl.MinSteam}, []int64{700}, 0, impl.MinSteam, [3]int64{0, 0, impl.OK}},
		{[]int64{impl.MinSteam + most}, []int64{700}, most, impl.MinSteam + most, [3]int64{0, 0, impl.OK}},
		// A limit at which all water boils.
		{[]int64{5000}, []int64{0}, 0, impl.MinSteam - 1, [3]int64{0, 0, impl.ErrNotFound}}, {[]int64{0}, []int64{0}, 0, 0, [3]int64{0, 0, impl.ErrNotFound}},
		{[]int64{5000}, []int64{0}, most, most, [3]int64{0, 0, impl.ErrNotFound}},
		// The least and the greatest number come from any nodes.
		{[]int64{900000, 3000, 7000}, []int64{impl.MaxWater, 0, 0}, 0, impl.MaxPressure, [3]int64{hotSteam - 900000, impl.MaxPressure - 900000, impl.OK}},
		{[]int64{9000, 3000, 7000}, alike(0, 3), 5, 8000, [3]int64{-1995, -1000, impl.OK}},
		{[]int64{-impl.MaxPressure}, []int64{impl.MaxWater}, most, impl.MaxPressure, [3]int64{impl.MaxPressure + hotSteam + most, 2 * impl.MaxPressure, impl.OK}},
		{[]int64{impl.MaxPressure}, []int64{0}, 0, impl.MinSteam, [3]int64{impl.MinSteam - impl.MaxPressure, impl.MinSteam - impl.MaxPressure, impl.OK}},
		{[]int64{impl.MaxPressure}, []int64{0}, 0, 0, [3]int64{0, 0, impl.ErrNotFound}},
		{[]int64{-impl.MaxPressure, impl.MaxPressure}, alike(0, 2), 0, impl.MaxPressure, [3]int64{0, 0, impl.ErrNotFound}},
		{alike(2000, impl.MaxNodes), alike(0, impl.MaxNodes), 0, 5000, [3]int64{-1000, 3000, impl.OK}},
		// There are no nodes.
		{nil, nil, 0, 0, [3]int64{0, 0, impl.ErrState}}, {nil, []int64{}, most, impl.MaxPressure, [3]int64{0, 0, impl.ErrState}},
	}
	for _, c := range cases {
		checkRoom(t, c.pressures, c.degrees, c.margin, c.limit, c.want)
	}
}

// raised returns numbers with something added to each of them.
func raised(list []int64, by int64) []int64 {
	list = slices.Clone(list)
	for i := range list {
		list[i] += by
	}
	return list
}

func TestPressureRoomHasAllThatCanBeAdded(t *testing.T) {
	random := rand.New(rand.NewSource(123))
	none := 0
	for range 1500 {
		margin, degrees := randomMargin(random), alike(random.Int63n(impl.MaxWater+1), 1+random.Intn(5))
		degrees[0] = random.Int63n(impl.MaxWater + 1)
		pressures := nearBoiling(random, degrees, margin)
		limit := slices.Max(pressures) + (random.Int63n(2*impl.MaxMargin)-impl.MaxMargin)>>random.Intn(20)
		limit = max(0, limit)
		// Any number is possible if no water boils with it and no pressure is too high.
		isPossible := func(by int64) bool {
			boiling, _ := impl.BoilingNodes(raised(pressures, by), degrees, margin)
			high, _ := impl.TooHigh(raised(pressures, by), limit)
			return len(boiling) == 0 && len(high) == 0
		}
		least, greatest, code := impl.PressureRoom(pressures, degrees, margin, limit)
		if code == impl.ErrNotFound {
			none++
			// If one was possible, the one with which some pressure is the limit would be so.
			if by := limit - slices.Max(pressures); isPossible(by) || least != 0 || greatest != 0 {
				t.Errorf("PressureRoom(%d, %d, %d, %d) gives none, but %d is possible", pressures, degrees, margin, limit, by)
			}
			continue
		}
		if code != impl.OK || !isPossible(least) || !isPossible(greatest) || isPossible(least-1) || isPossible(greatest+1) {
			t.Errorf("PressureRoom(%d, %d, %d, %d) = %d, %d, %d", pressures, degrees, margin, limit, least, greatest, code)
		}
	}
	if none < 100 || none > 1400 {
		t.Errorf("%d times nothing can be added", none)
	}
}
