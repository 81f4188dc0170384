package tests

import (
	"math/rand"
	"slices"
	"testing"

	"loop.example/g01011/impl"
)

// Promise 8, first half: flows in a tree bring its demand to each node. What runs through a tree besides is tested here, too.

// village returns a tree of six nodes; seen from the node 0, the pipes 1 and 3 are run through against their direction.
func village() impl.Network {
	return networkOf(6, [2]int64{0, 1}, [2]int64{2, 1}, [2]int64{1, 3}, [2]int64{4, 3}, [2]int64{3, 5})
}

// noTrees are valid networks that have a ring, or several parts, or both.
func noTrees() []impl.Network {
	return []impl.Network{
		networkOf(2), networkOf(impl.MaxNodes), networkOf(2, [2]int64{0, 1}, [2]int64{1, 0}), largestNetwork(),
		networkOf(3, [2]int64{0, 1}, [2]int64{1, 2}, [2]int64{2, 0}), networkOf(4, [2]int64{0, 1}, [2]int64{2, 3}),
		// As many pipes as in a tree, but a ring and a node apart.
		networkOf(4, [2]int64{0, 1}, [2]int64{1, 2}, [2]int64{2, 0}), networkOf(3, [2]int64{0, 1}, [2]int64{0, 1}),
		networkOf(2, slices.Repeat([][2]int64{{0, 1}}, impl.MaxPipes)...),
	}
}

// chainOf returns a line of as many nodes as possible, all of whose pipes have the same sizes.
func chainOf(length, diameter int64) impl.Network {
	n := lineOf(impl.MaxNodes)
	for node := range n.Nodes {
		n.Nodes[node] = 0
	}
	for k := range n.Pipes {
		n.Pipes[k].Length, n.Pipes[k].Diameter = length, diameter
	}
	return n
}

// turnedPipes returns a network with some of its pipes in the other direction.
func turnedPipes(n impl.Network, isTurned func(k int) bool) impl.Network {
	pipes := slices.Clone(n.Pipes)
	for k := range pipes {
		if isTurned(k) {
			pipes[k].From, pipes[k].To = pipes[k].To, pipes[k].From
		}
	}
	return impl.Network{Nodes: slices.Clone(n.Nodes), Pipes: pipes}
}

// randomDistrict returns a tree with pipes and elevations of all kinds.
func randomDistrict(random *rand.Rand) impl.Network {
	n := randomTree(random)
	for node := range n.Nodes {
		n.Nodes[node] = random.Int63n(2*impl.MaxElevation+1) - impl.MaxElevation
	}
	for k, old := range n.Pipes {
		p := randomPipe(random)
		p.Id, p.From, p.To = old.Id, old.From, old.To
		n.Pipes[k] = p
	}
	return n
}

// randomDemands are sometimes too great together, and some of them are 0.
func randomDemands(random *rand.Rand, nodes int) []int64 {
	demands := make([]int64, nodes)
	less := random.Intn(12)
	for node := range demands {
		if random.Intn(4) > 0 {
			demands[node] = random.Int63n(impl.MaxFlow+1) >> less
		}
	}
	return demands
}

func randomFlows(random *rand.Rand, pipes int) []int64 {
	flows := make([]int64, pipes)
	for k := range flows {
		if random.Intn(6) > 0 {
			flows[k] = randomFlow(random)
		}
	}
	return flows
}

// arrival is the last pipe of the way to a node, which comes from the node before it, with the pipe or against it.
type arrival struct {
	before, node int64
	pipe         int
	sign         int64
}

// arrivalsOf finds the ways of a tree by looking again and again for a pipe that leads on; they are in the order of finding.
func arrivalsOf(n impl.Network, source int64) []arrival {
	isReached := map[int64]bool{source: true}
	var list []arrival
	for range n.Nodes {
		for k, p := range n.Pipes {
			switch {
			case isReached[p.From] && !isReached[p.To]:
				list = append(list, arrival{p.From, p.To, k, 1})
			case isReached[p.To] && !isReached[p.From]:
				list = append(list, arrival{p.To, p.From, k, -1})
			default:
				continue
			}
			isReached[list[len(list)-1].node] = true
		}
	}
	return list
}

// exactFlows are the flows by their definition: a pipe carries the demands of all that is cut off without it.
func exactFlows(n impl.Network, source int64, demands []int64) []int64 {
	flows := make([]int64, len(n.Pipes))
	for k, p := range n.Pipes {
		joined := joinedNodes(n, everyPipeBut(int64(k)))
		for node, demand := range demands {
			if !joined[source][node] {
				flows[k] += demand
			}
		}
		if joined[source][p.To] {
			flows[k] = -flows[k]
		}
	}
	return flows
}

func areFlows(flows []int64) bool {
	return !slices.ContainsFunc(flows, func(flow int64) bool { return magnitude(flow) > impl.MaxFlow })
}

// sumOf adds up numbers.
func sumOf(list []int64) int64 {
	sum := int64(0)
	for _, n := range list {
		sum += n
	}
	return sum
}

// demandAt returns demands of which only that of one node is not 0.
func demandAt(nodes int, node, demand int64) []int64 {
	demands := make([]int64, nodes)
	demands[node] = demand
	return demands
}

func TestTreeFlows(t *testing.T) {
	// Each sum of these demands tells which nodes are in it.
	demands := []int64{1, 2, 4, 8, 16, 32}
	cases := []struct {
		source int64
		want   []int64
	}{
		// 0, 2, 4 and 5 are leaves; the others lie in between.
		{0, []int64{62, -4, 56, -16, 32}}, {1, []int64{-1, -4, 56, -16, 32}}, {2, []int64{-1, 59, 56, -16, 32}},
		{3, []int64{-1, -4, -7, -16, 32}}, {4, []int64{-1, -4, -7, 47, 32}}, {5, []int64{-1, -4, -7, -16, -31}},
	}
	for _, c := range cases {
		got, code := impl.TreeFlows(village(), c.source, demands)
		checkIndices(t, got, code, c.want, "TreeFlows", c.source)
	}
	for source := range int64(6) {
		got, code := impl.TreeFlows(village(), source, make([]int64, 6))
		checkIndices(t, got, code, make([]int64, 5), "TreeFlows", source, "no demands")
		// What the source itself needs runs through no pipe.
		got, code = impl.TreeFlows(village(), source, demandAt(6, source, impl.MaxFlow))
		checkIndices(t, got, code, make([]int64, 5), "TreeFlows", source, "its own demand")
	}
	got, code := impl.TreeFlows(village(), 4, demandAt(6, 2, 7))
	checkIndices(t, got, code, []int64{0, -7, -7, 7, 0}, "TreeFlows", "one demand")
}

func TestTreeFlowsOfASingleNode(t *testing.T) {
	for _, demand := range []int64{0, 1, impl.MaxFlow} {
		got, code := impl.TreeFlows(networkOf(1), 0, []int64{demand})
		checkIndices(t, got, code, nil, "TreeFlows", demand)
	}
	for _, n := range []impl.Network{networkOf(2), networkOf(impl.MaxNodes)} {
		got, code := impl.TreeFlows(n, 0, make([]int64, len(n.Nodes)))
		checkRefused(t, got, code, impl.ErrState, "TreeFlows", "without pipes", len(n.Nodes))
	}
}

func TestGreatestTreeFlows(t *testing.T) {
	most := int64(impl.MaxFlow)
	star := networkOf(3, [2]int64{0, 1}, [2]int64{2, 0})
	line := lineOf(impl.MaxNodes)
	alike := slices.Repeat([]int64{6666}, impl.MaxNodes)
	falling := make([]int64, 15)
	for k := range falling {
		falling[k] = 6666 * int64(15-k) * int64(1-2*(k%2))
	}
	cases := []struct {
		n       impl.Network
		source  int64
		demands []int64
		want    []int64
		code    int64
	}{
		{star, 0, []int64{most, most, most}, []int64{most, -most}, impl.OK},
		{star, 1, []int64{most, most, 0}, []int64{-most, 0}, impl.OK},
		{star, 1, []int64{most - 5, most, 5}, []int64{-most, -5}, impl.OK},
		{star, 1, []int64{most, most, 1}, nil, impl.ErrFull},
		{star, 1, []int64{0, 0, most}, []int64{-most, -most}, impl.OK},
		{star, 2, []int64{most - 1, 1, most}, []int64{1, most}, impl.OK},
		{star, 2, []int64{most, 1, 0}, nil, impl.ErrFull}, {star, 2, []int64{1, most, 0}, nil, impl.ErrFull},
		{star, 2, []int64{most, most, most}, nil, impl.ErrFull},
		{line, 0, alike, falling, impl.OK}, {line, 0, slices.Repeat([]int64{6667}, impl.MaxNodes), nil, impl.ErrFull},
		{line, 0, slices.Repeat([]int64{most}, impl.MaxNodes), nil, impl.ErrFull},
		// A pipe far away would carry too much, whether with its direction or against it.
		{line, 15, []int64{most, 1, 0, 0, 0, 0, 0, 0, 0, 0, 0, 0, 0, 0, 0, 0}, nil, impl.ErrFull},
		{line, 15, []int64{most - 1, 1, 1, 0, 0, 0, 0, 0, 0, 0, 0, 0, 0, 0, 0, 0}, nil, impl.ErrFull},
	}
	for _, c := range cases {
		got, code := impl.TreeFlows(c.n, c.source, c.demands)
		if !slices.Equal(got, c.want) || code != c.code {
			t.Errorf("TreeFlows(%+v, %d, %d) = %d, %d", c.n, c.source, c.demands, got, code)
		}
	}
	// No drop is too great here.
	narrow := chainOf(impl.MaxLength, impl.MinWidth)
	if got, code := impl.TreeFlows(narrow, 0, demandAt(impl.MaxNodes, 15, most)); code != impl.OK || got[14] != most {
		t.Errorf("TreeFlows of narrow pipes = %d, %d", got, code)
	}
}

func TestFlowsBringItsDemandToEachNode(t *testing.T) {
	random := rand.New(rand.NewSource(70))
	refused := 0
	for range 1500 {
		n := randomDistrict(random)
		demands, source := randomDemands(random, len(n.Nodes)), random.Int63n(int64(len(n.Nodes)))
		want := exactFlows(n, source, demands)
		flows, code := impl.TreeFlows(n, source, demands)
		if !areFlows(want) {
			checkRefused(t, flows, code, impl.ErrFull, "TreeFlows", n, source, demands)
			refused++
			continue
		}
		checkIndices(t, flows, code, want, "TreeFlows", n, source, demands)
		for node, demand := range demands {
			if int64(node) == source {
				demand -= sumOf(demands)
			}
			balance, code := impl.BalanceAt(n, flows, int64(node))
			checkCode(t, balance, code, demand, impl.OK, "BalanceAt", n, flows, node)
		}
		for _, a := range arrivalsOf(n, source) {
			if a.sign*flows[a.pipe] < 0 {
				t.Errorf("TreeFlows(%+v, %d, %d) = %d flows towards the source", n, source, demands, flows)
			}
		}
	}
	if refused < 100 || refused > 1400 {
		t.Errorf("%d of the demands are too great", refused)
	}
}

func TestTurnedPipesHaveTheOppositeFlows(t *testing.T) {
	random := rand.New(rand.NewSource(71))
	for range 300 {
		n := randomDistrict(random)
		demands, source := randomDemands(random, len(n.Nodes)), random.Int63n(int64(len(n.Nodes)))
		isTurned := make([]bool, len(n.Pipes))
		for k := range isTurned {
			isTurned[k] = random.Intn(2) == 0
		}
		turned := turnedPipes(n, func(k int) bool { return isTurned[k] })
		want, wantCode := impl.TreeFlows(n, source, demands)
		for k := range want {
			if isTurned[k] {
				want[k] = -want[k]
			}
		}
		got, code := impl.TreeFlows(turned, source, demands)
		if !slices.Equal(got, want) || code != wantCode {
			t.Errorf("TreeFlows(%+v, %d, %d) = %d, %d, want %d, %d", turned, source, demands, got, code, want, wantCode)
		}
	}
}

func TestBalanceAt(t *testing.T) {
	ring := networkOf(4, [2]int64{0, 1}, [2]int64{2, 1}, [2]int64{2, 0}, [2]int64{1, 0})
	parallel := networkOf(2, slices.Repeat([][2]int64{{0, 1}}, impl.MaxPipes)...)
	most := slices.Repeat([]int64{impl.MaxFlow}, impl.MaxPipes)
	least := slices.Repeat([]int64{-impl.MaxFlow}, impl.MaxPipes)
	cases := []struct {
		n     impl.Network
		flows []int64
		want  []int64
	}{
		{networkOf(1), nil, []int64{0}}, {networkOf(3), []int64{}, []int64{0, 0, 0}},
		{village(), []int64{62, -4, 56, -16, 32}, []int64{-62, 2, 4, 8, 16, 32}},
		// These do not balance: the node 1 gets 1 and 10 and gives 100.
		{village(), []int64{1, 10, 100, 1000, 10000}, []int64{-1, -89, -10, -8900, -1000, 10000}},
		{village(), []int64{0, 0, 0, 0, 0}, []int64{0, 0, 0, 0, 0, 0}},
		{ring, []int64{1, 10, 100, 1000}, []int64{1099, -989, -110, 0}},
		{ring, []int64{-1, -10, 100, -1000}, []int64{-899, 989, -90, 0}},
		{parallel, most, []int64{-2000000, 2000000}}, {parallel, least, []int64{2000000, -2000000}},
	}
	for _, c := range cases {
		for node, want := range c.want {
			got, code := impl.BalanceAt(c.n, c.flows, int64(node))
			checkCode(t, got, code, want, impl.OK, "BalanceAt", c.n, c.flows, node)
		}
	}
	random := rand.New(rand.NewSource(72))
	for _, n := range append(validNetworks(), randomNetworks(73)...) {
		flows := randomFlows(random, len(n.Pipes))
		want := make([]int64, len(n.Nodes))
		for k, p := range n.Pipes {
			want[p.From] -= flows[k]
			want[p.To] += flows[k]
		}
		for node := range want {
			got, code := impl.BalanceAt(n, flows, int64(node))
			checkCode(t, got, code, want[node], impl.OK, "BalanceAt", n, flows, node)
		}
	}
}

func TestPumpPower(t *testing.T) {
	cases := []struct{ head, flow, want int64 }{
		{200000, 5000, 1000}, {200000, -5000, 1000}, {0, 5000, 0}, {200000, 0, 0}, {0, 0, 0},
		// Just half a watt is rounded up, for a flow in either direction, and a little less down.
		{1000, 500, 1}, {1000, -500, 1}, {1000, 499, 0}, {1000, -499, 0}, {500000, 3, 2}, {499999, 3, 1}, {500000, -3, 2},
		{impl.MaxPressure, impl.MaxFlow, 10000000}, {impl.MaxPressure, -impl.MaxFlow, 10000000}, {impl.MaxPressure, 1, 100},
		{1, impl.MaxFlow, 0}, {5, impl.MaxFlow, 1}, {5, -impl.MaxFlow, 1}, {4, impl.MaxFlow, 0},
	}
	for _, c := range cases {
		got, code := impl.PumpPower(c.head, c.flow)
		checkCode(t, got, code, c.want, impl.OK, "PumpPower", c.head, c.flow)
	}
	random := rand.New(rand.NewSource(74))
	for range 3000 {
		head, flow := random.Int63n(impl.MaxPressure+1)>>random.Intn(28), randomFlow(random)
		got, code := impl.PumpPower(head, flow)
		checkCode(t, got, code, quotientOf(1000000, head, magnitude(flow)), impl.OK, "PumpPower", head, flow)
	}
	for _, head := range beyond(0, impl.MaxPressure) {
		got, code := impl.PumpPower(head, 0)
		checkCode(t, got, code, 0, impl.ErrRange, "PumpPower", head, 0)
	}
	for _, flow := range beyond(-impl.MaxFlow, impl.MaxFlow) {
		got, code := impl.PumpPower(0, flow)
		checkCode(t, got, code, 0, impl.ErrRange, "PumpPower", 0, flow)
	}
}

func TestDelayTo(t *testing.T) {
	// The pipes are 1 to 5 metres long and 100 millimetres wide, so that there are 7854 grams in each metre.
	n := village()
	forward := []int64{7854, -7854, 7854, -7854, 7854}
	cases := []struct {
		source     int64
		flows      []int64
		node       int64
		want, code int64
	}{
		{0, forward, 0, 0, impl.OK}, {0, forward, 1, 1, impl.OK}, {0, forward, 2, 3, impl.OK}, {0, forward, 3, 4, impl.OK},
		{0, forward, 4, 8, impl.OK}, {0, forward, 5, 9, impl.OK},
		// Seen from a node in between, what is before it is run through against the direction.
		{3, []int64{-7854, -7854, -7854, -7854, 7854}, 0, 4, impl.OK}, {3, []int64{-7854, -7854, -7854, -7854, 7854}, 2, 5, impl.OK},
		// The delay of each pipe is rounded up for itself.
		{0, []int64{7853, -7854, 7854, -7854, 7854}, 1, 2, impl.OK}, {0, []int64{7855, -7854, 7854, -7854, 7854}, 1, 1, impl.OK},
		{0, []int64{4000, -9000, 7854, -7854, 7854}, 2, 4, impl.OK}, {0, []int64{100000, -100000, 100000, -100000, 100000}, 5, 3, impl.OK},
		{0, []int64{1, -1, 1, -1, 1}, 5, 70686, impl.OK},
		// Water stands or comes back in a pipe of the way, in the first one or in the last one.
		{0, []int64{0, -7854, 7854, -7854, 7854}, 2, 0, impl.ErrNotFound}, {0, []int64{-1, -7854, 7854, -7854, 7854}, 2, 0, impl.ErrNotFound},
		{0, []int64{7854, 0, 7854, -7854, 7854}, 2, 0, impl.ErrNotFound}, {0, []int64{7854, 1, 7854, -7854, 7854}, 2, 0, impl.ErrNotFound},
		{5, forward, 4, 0, impl.ErrNotFound}, {5, forward, 3, 0, impl.ErrNotFound}, {1, forward, 0, 0, impl.ErrNotFound},
		// In other pipes it does not matter, nor on the way to the source itself.
		{0, []int64{7854, 0, 0, 0, 0}, 1, 1, impl.OK}, {0, []int64{7854, -1, 7854, 1, -1}, 3, 4, impl.OK},
		{0, []int64{-1, 1, -1, 1, -1}, 0, 0, impl.OK}, {4, make([]int64, 5), 4, 0, impl.OK},
	}
	for _, c := range cases {
		got, code := impl.DelayTo(n, c.source, c.flows, c.node)
		checkCode(t, got, code, c.want, c.code, "DelayTo", c.source, c.flows, c.node)
	}
	got, code := impl.DelayTo(networkOf(1), 0, nil, 0)
	checkCode(t, got, code, 0, impl.OK, "DelayTo", "a single node")
	// The longest delay there may be, and a narrow pipe whose drop is too great.
	slow := make([]int64, 15)
	fast := make([]int64, 15)
	for k := range slow {
		slow[k], fast[k] = int64(1-2*(k%2)), impl.MaxFlow*int64(1-2*(k%2))
	}
	got, code = impl.DelayTo(chainOf(impl.MaxLength, impl.MaxWidth), 0, slow, 15)
	checkCode(t, got, code, 15*7854000000, impl.OK, "DelayTo", "the longest one")
	got, code = impl.DelayTo(chainOf(impl.MaxLength, impl.MinWidth), 0, fast, 15)
	checkCode(t, got, code, 15*32, impl.OK, "DelayTo", "narrow pipes")
}

func TestDelaysAreSums(t *testing.T) {
	random := rand.New(rand.NewSource(75))
	found, missed := 0, 0
	for range 1500 {
		n := randomDistrict(random)
		source := random.Int63n(int64(len(n.Nodes)))
		flows := randomFlows(random, len(n.Pipes))
		ways := arrivalsOf(n, source)
		for _, a := range ways {
			// Most of the flows go away from the source, so that some ways can be run through.
			if random.Intn(5) > 0 {
				flows[a.pipe] = a.sign * magnitude(flows[a.pipe])
			}
		}
		delays, isRun := map[int64]int64{source: 0}, map[int64]bool{source: true}
		for _, a := range ways {
			delay, code := impl.DelayOf(n.Pipes[a.pipe], flows[a.pipe])
			if isRun[a.before] && a.sign*flows[a.pipe] > 0 && code == impl.OK {
				delays[a.node], isRun[a.node] = delays[a.before]+delay, true
			}
		}
		for node := range int64(len(n.Nodes)) {
			wantCode := int64(impl.ErrNotFound)
			if isRun[node] {
				wantCode = impl.OK
				found++
			} else {
				missed++
			}
			got, code := impl.DelayTo(n, source, flows, node)
			checkCode(t, got, code, delays[node], wantCode, "DelayTo", n, source, flows, node)
		}
	}
	if found < 1000 || missed < 1000 {
		t.Errorf("%d nodes are reached, and %d are not", found, missed)
	}
}

func TestNodeTemperatures(t *testing.T) {
	// All pipes are as long as the first one of chapter 3.
	n := village()
	for k := range n.Pipes {
		n.Pipes[k].Length = 500
	}
	away := []int64{5000, -5000, 5000, -5000, 5000}
	still := []int64{5000, -5000, 0, -5000, 5000}
	back := []int64{5000, -5000, -5000, -5000, 5000}
	cases := []struct {
		source         int64
		flows          []int64
		supply, ground int64
		want           []int64
	}{
		{0, away, 8000, 800, []int64{8000, 7948, 7897, 7897, 7846, 7846}},
		{0, away, 800, 8000, []int64{800, 852, 903, 903, 954, 954}},
		{0, away, 800, 800, []int64{800, 800, 800, 800, 800, 800}},
		// Behind a pipe with no flow, or one towards the source, water is as cold as the ground, whatever flows there.
		{0, still, 8000, 800, []int64{8000, 7948, 7897, 800, 800, 800}}, {0, back, 8000, 800, []int64{8000, 7948, 7897, 800, 800, 800}},
		{0, make([]int64, 5), 8000, 800, []int64{8000, 800, 800, 800, 800, 800}},
		// From another source these flows go the wrong way in the pipes 0 and 2.
		{3, away, 8000, 800, []int64{800, 800, 800, 8000, 7948, 7948}}, {5, away, 8000, 800, []int64{800, 800, 800, 800, 800, 8000}},
		{3, []int64{-5000, -36, -5000, -35, 36}, 8000, 800, []int64{7897, 7948, 833, 8000, 800, 833}},
		{1, make([]int64, 5), -5000, 20000, []int64{20000, -5000, 20000, 20000, 20000, 20000}},
		{2, make([]int64, 5), 20000, -5000, []int64{-5000, -5000, 20000, -5000, -5000, -5000}},
	}
	for _, c := range cases {
		got, code := impl.NodeTemperatures(n, c.source, c.flows, c.supply, c.ground)
		checkIndices(t, got, code, c.want, "NodeTemperatures", c.source, c.flows, c.supply, c.ground)
	}
	got, code := impl.NodeTemperatures(networkOf(1), 0, nil, 8000, 800)
	checkIndices(t, got, code, []int64{8000}, "NodeTemperatures", "a single node")
	// Drops may be too great here.
	narrow := chainOf(impl.MaxLength, impl.MinWidth)
	for k := range narrow.Pipes {
		narrow.Pipes[k].Loss = 0
	}
	fast := slices.Repeat([]int64{impl.MaxFlow, -impl.MaxFlow}, 8)[:15]
	got, code = impl.NodeTemperatures(narrow, 0, fast, 20000, -5000)
	checkIndices(t, got, code, slices.Repeat([]int64{20000}, 16), "NodeTemperatures", "narrow pipes")
}

func TestTemperaturesFallAlongWays(t *testing.T) {
	random := rand.New(rand.NewSource(76))
	for range 1500 {
		n := randomDistrict(random)
		source, flows := random.Int63n(int64(len(n.Nodes))), randomFlows(random, len(n.Pipes))
		supply, ground := randomTemperature(random), randomTemperature(random)
		want := make([]int64, len(n.Nodes))
		want[source] = supply
		for _, a := range arrivalsOf(n, source) {
			want[a.node] = ground
			if a.sign*flows[a.pipe] > 0 {
				want[a.node], _ = impl.EndTemperature(n.Pipes[a.pipe], flows[a.pipe], want[a.before], ground)
			}
		}
		got, code := impl.NodeTemperatures(n, source, flows, supply, ground)
		checkIndices(t, got, code, want, "NodeTemperatures", n, source, flows, supply, ground)
	}
}

// The pipes of a way are the same whether they run with it or against it.
func TestTurnedPipesWithTurnedFlowsAreTheSame(t *testing.T) {
	random := rand.New(rand.NewSource(77))
	for range 300 {
		n := randomDistrict(random)
		source, flows := random.Int63n(int64(len(n.Nodes))), randomFlows(random, len(n.Pipes))
		isTurned := make([]bool, len(n.Pipes))
		opposite := slices.Clone(flows)
		for k := range opposite {
			if isTurned[k] = random.Intn(2) == 0; isTurned[k] {
				opposite[k] = -opposite[k]
			}
		}
		turned := turnedPipes(n, func(k int) bool { return isTurned[k] })
		demands := randomDemands(random, len(n.Nodes))
		told := figures{source, random.Int63n(int64(len(n.Nodes))), 9000, 8000, 800}
		for _, h := range hydraulics() {
			if h.name == "TreeFlows" {
				continue
			}
			want, got := h.of(n, demands, flows, told), h.of(turned, demands, opposite, told)
			if want.code != got.code || !slices.Equal(want.values, got.values) {
				t.Errorf("%s(%+v, %d, %d, %+v) = %+v, but %+v if pipes are turned", h.name, n, demands, flows, told, want, got)
			}
		}
	}
}
