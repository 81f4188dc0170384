package tests

import (
	"math/rand"
	"slices"
	"testing"

	"loop.example/g01011/impl"
)

// Promise 8, second half: the least head is enough for all nodes.

// With this flow the pipes of pressedChain have just the greatest drop.
const pressedFlow = 24500

func pressedChain() impl.Network { return chainOf(42, 21) }

// awayFlows are flows from the node 0 of lineOf or chainOf to the last one.
func awayFlows(flow int64) []int64 {
	return slices.Repeat([]int64{flow, -flow}, 8)[:15]
}

// hasDrops reports whether no drop is too great.
func hasDrops(n impl.Network, flows []int64) bool {
	for k, p := range n.Pipes {
		if magnitude(exactDrop(p, flows[k])) > impl.MaxPressure {
			return false
		}
	}
	return true
}

// exactPressures follow the ways of a tree from the source on.
func exactPressures(n impl.Network, source int64, flows []int64, pressure int64) []int64 {
	list := make([]int64, len(n.Nodes))
	list[source] = pressure
	for _, a := range arrivalsOf(n, source) {
		drop := a.sign * exactDrop(n.Pipes[a.pipe], flows[a.pipe])
		list[a.node] = list[a.before] - drop - quotientOf(10, 981, n.Nodes[a.node]-n.Nodes[a.before])
	}
	return list
}

// exactDifferences sum up the drops of each way.
func exactDifferences(n impl.Network, source int64, flows []int64, head int64) []int64 {
	list := make([]int64, len(n.Nodes))
	list[source] = head
	for _, a := range arrivalsOf(n, source) {
		list[a.node] = list[a.before] - 2*a.sign*exactDrop(n.Pipes[a.pipe], flows[a.pipe])
	}
	return list
}

// exactWorst returns the first of the nodes with a demand that have the least difference; -1 if there is none.
func exactWorst(differences, demands []int64) int64 {
	worst := int64(-1)
	for node := len(demands) - 1; node >= 0; node-- {
		if demands[node] > 0 && (worst < 0 || differences[node] <= differences[worst]) {
			worst = int64(node)
		}
	}
	return worst
}

func TestPressuresOf(t *testing.T) {
	n, _ := impl.ReadNetwork("0,0,0/a 0,1,500,100,300/b 2,1,500,100,300")
	cases := []struct {
		source   int64
		flows    []int64
		pressure int64
		want     []int64
	}{
		// Both pipes are run through away from the source, and each of them takes 20250.
		{0, []int64{5000, -5000}, 500000, []int64{500000, 479750, 459500}},
		{2, []int64{-5000, 5000}, 500000, []int64{459500, 479750, 500000}},
		{1, []int64{-5000, -5000}, 500000, []int64{479750, 500000, 479750}},
		// Water that comes to the source has lost pressure before.
		{0, []int64{-5000, 5000}, 500000, []int64{500000, 520250, 540500}},
		{0, []int64{5000, 5000}, 500000, []int64{500000, 479750, 500000}},
		{1, []int64{5000, -5000}, 500000, []int64{520250, 500000, 479750}},
		{0, []int64{0, 0}, 500000, []int64{500000, 500000, 500000}}, {0, []int64{0, -5000}, 500000, []int64{500000, 500000, 479750}},
		// They may be negative.
		{0, []int64{5000, -5000}, 20250, []int64{20250, 0, -20250}}, {0, []int64{5000, -5000}, 0, []int64{0, -20250, -40500}},
		{0, []int64{0, 0}, impl.MaxPressure, []int64{impl.MaxPressure, impl.MaxPressure, impl.MaxPressure}},
	}
	for _, c := range cases {
		got, code := impl.PressuresOf(n, c.source, c.flows, c.pressure)
		checkIndices(t, got, code, c.want, "PressuresOf", c.source, c.flows, c.pressure)
	}
	got, code := impl.PressuresOf(networkOf(1), 0, nil, 77)
	checkIndices(t, got, code, []int64{77}, "PressuresOf", "a single node")
}

func TestPressuresOfElevations(t *testing.T) {
	cases := []struct {
		elevations []int64
		source     int64
		want       []int64
	}{
		{[]int64{0, 1000, 0, -1000}, 0, []int64{1000000, 901900, 1000000, 1098100}},
		{[]int64{0, 1000, 0, -1000}, 3, []int64{901900, 803800, 901900, 1000000}},
		{[]int64{7, 8, 9, 10}, 0, []int64{1000000, 999902, 999804, 999706}},
		{[]int64{-7, -8, -9, -10}, 0, []int64{1000000, 1000098, 1000196, 1000294}},
		// 490.5 pascals are rounded away from 0 upwards and downwards, and for each pipe for itself.
		{[]int64{0, 5, 0, -5}, 0, []int64{1000000, 999509, 1000000, 1000491}},
		{[]int64{0, 5, 10, 15}, 0, []int64{1000000, 999509, 999018, 998527}},
		{[]int64{0, 5, 10, 15}, 3, []int64{1001473, 1000982, 1000491, 1000000}},
		{[]int64{0, 5, 10, 15}, 2, []int64{1000982, 1000491, 1000000, 999509}},
		{[]int64{0, 4, 10, 5}, 1, []int64{1000392, 1000000, 999411, 999902}},
		{[]int64{100000, -100000, 100000, 0}, 0, []int64{1000000, 20620000, 1000000, 10810000}},
		{[]int64{-100000, 100000, -100000, 0}, 0, []int64{1000000, -18620000, 1000000, -8810000}},
	}
	for _, c := range cases {
		n := lineOf(4)
		n.Nodes = c.elevations
		got, code := impl.PressuresOf(n, c.source, make([]int64, 3), 1000000)
		checkIndices(t, got, code, c.want, "PressuresOf", c.elevations, c.source)
		// For the differences between supply and return, elevations do not matter.
		got, code = impl.DifferencesOf(n, c.source, make([]int64, 3), 1000000)
		checkIndices(t, got, code, slices.Repeat([]int64{1000000}, 4), "DifferencesOf", c.elevations, c.source)
	}
}

func TestDifferencesOf(t *testing.T) {
	n, _ := impl.ReadNetwork("100,-200,300/a 0,1,500,100,300/b 2,1,500,100,300")
	cases := []struct {
		source int64
		flows  []int64
		head   int64
		want   []int64
	}{
		{0, []int64{5000, -5000}, 200000, []int64{200000, 159500, 119000}}, {2, []int64{-5000, 5000}, 200000, []int64{119000, 159500, 200000}},
		{1, []int64{-5000, -5000}, 200000, []int64{159500, 200000, 159500}}, {0, []int64{-5000, 5000}, 200000, []int64{200000, 240500, 281000}},
		{0, []int64{5000, 5000}, 200000, []int64{200000, 159500, 200000}}, {0, []int64{0, 0}, 200000, []int64{200000, 200000, 200000}},
		{0, []int64{5000, -5000}, 40500, []int64{40500, 0, -40500}}, {0, []int64{5000, -5000}, 0, []int64{0, -40500, -81000}},
		{0, []int64{0, -5000}, impl.MaxPressure, []int64{impl.MaxPressure, impl.MaxPressure, impl.MaxPressure - 40500}},
	}
	for _, c := range cases {
		got, code := impl.DifferencesOf(n, c.source, c.flows, c.head)
		checkIndices(t, got, code, c.want, "DifferencesOf", c.source, c.flows, c.head)
	}
	got, code := impl.DifferencesOf(networkOf(1), 0, nil, 77)
	checkIndices(t, got, code, []int64{77}, "DifferencesOf", "a single node")
	// The drop is rounded before it is doubled.
	half := impl.Network{Nodes: []int64{0, 0}, Pipes: []impl.Pipe{{Id: "a", To: 1, Length: 750, Diameter: 30}}}
	for _, c := range [][2]int64{{1, 98}, {-1, 102}, {0, 100}} {
		got, code := impl.DifferencesOf(half, 0, []int64{c[0]}, 100)
		checkIndices(t, got, code, []int64{100, c[1]}, "DifferencesOf", "half a pascal", c[0])
	}
}

func TestDropsThatAreErrors(t *testing.T) {
	// Each pipe has just the greatest drop; so the numbers are the least ones there may be.
	n := pressedChain()
	pressures, differences := make([]int64, 16), make([]int64, 16)
	for node := range int64(16) {
		pressures[node], differences[node] = -impl.MaxPressure*node, -2*impl.MaxPressure*node
	}
	got, code := impl.PressuresOf(n, 0, awayFlows(pressedFlow), 0)
	checkIndices(t, got, code, pressures, "PressuresOf", "the greatest drops")
	got, code = impl.DifferencesOf(n, 0, awayFlows(pressedFlow), 0)
	checkIndices(t, got, code, differences, "DifferencesOf", "the greatest drops")
	for k := range 15 {
		for _, flow := range []int64{pressedFlow + 1, -pressedFlow - 1, impl.MaxFlow, -impl.MaxFlow} {
			flows := make([]int64, 15)
			flows[k] = flow
			for source := range int64(16) {
				got, code := impl.PressuresOf(n, source, flows, 0)
				checkRefused(t, got, code, impl.ErrFull, "PressuresOf", source, flows)
				got, code = impl.DifferencesOf(n, source, flows, 0)
				checkRefused(t, got, code, impl.ErrFull, "DifferencesOf", source, flows)
			}
		}
		flows := make([]int64, 15)
		flows[k] = -pressedFlow
		if got, code := impl.PressuresOf(n, 0, flows, 0); code != impl.OK || magnitude(got[15]) != impl.MaxPressure {
			t.Errorf("PressuresOf with the greatest drop in the pipe %d = %d, %d", k, got, code)
		}
	}
	// What TreeFlows allows may still have too great a drop.
	for _, demand := range []int64{pressedFlow + 1, impl.MaxFlow} {
		for node := int64(1); node < 16; node++ {
			demands := demandAt(16, node, demand)
			if _, code := impl.TreeFlows(n, 0, demands); code != impl.OK {
				t.Errorf("TreeFlows(%d) gives %d", demands, code)
			}
			head, code := impl.LeastHead(n, 0, demands, 0)
			checkCode(t, head, code, 0, impl.ErrFull, "LeastHead", demands)
			checkWorst(t, n, 0, demands, 0, [3]int64{0, 0, impl.ErrFull})
		}
	}
}

func TestPressuresAreExact(t *testing.T) {
	random := rand.New(rand.NewSource(80))
	refused := 0
	for range 2000 {
		n := randomDistrict(random)
		source, flows := random.Int63n(int64(len(n.Nodes))), randomFlows(random, len(n.Pipes))
		pressure := random.Int63n(impl.MaxPressure+1) >> random.Intn(28)
		pressures, pressuresCode := impl.PressuresOf(n, source, flows, pressure)
		differences, differencesCode := impl.DifferencesOf(n, source, flows, pressure)
		if !hasDrops(n, flows) {
			checkRefused(t, pressures, pressuresCode, impl.ErrFull, "PressuresOf", n, source, flows)
			checkRefused(t, differences, differencesCode, impl.ErrFull, "DifferencesOf", n, source, flows)
			refused++
			continue
		}
		wantPressures, wantDifferences := exactPressures(n, source, flows, pressure), exactDifferences(n, source, flows, pressure)
		checkIndices(t, pressures, pressuresCode, wantPressures, "PressuresOf", n, source, flows, pressure)
		checkIndices(t, differences, differencesCode, wantDifferences, "DifferencesOf", n, source, flows, pressure)
	}
	if refused < 100 || refused > 1900 {
		t.Errorf("%d of the flows have too great a drop", refused)
	}
}

// checkWorst compares what WorstNode returns with a node, a difference and a code.
func checkWorst(t *testing.T, n impl.Network, source int64, demands []int64, head int64, want [3]int64) {
	t.Helper()
	node, difference, code := impl.WorstNode(n, source, demands, head)
	if got := [3]int64{node, difference, code}; got != want {
		t.Errorf("WorstNode(%+v, %d, %d, %d) = %d, want %d", n, source, demands, head, got, want)
	}
}

func TestWorstNode(t *testing.T) {
	// A star, whose pipes take 40500 there and back with a flow of 5000, and a line.
	star, _ := impl.ReadNetwork("0,9,-9,99,0/a 0,1,500,100,300/b 2,0,500,100,300/c 0,3,500,100,300/d 4,0,500,100,300")
	line, _ := impl.ReadNetwork("0,9,-9/a 0,1,500,100,300/b 2,1,500,100,300")
	wide, _ := impl.ReadNetwork("5,4,3,2/a 1,0,1,1000,0/b 1,2,1,1000,0/c 2,3,1,1000,0")
	cases := []struct {
		n       impl.Network
		source  int64
		demands []int64
		head    int64
		want    [3]int64
	}{
		{star, 0, []int64{0, 0, 5000, 0, 4999}, 200000, [3]int64{2, 159500, impl.OK}},
		{star, 0, []int64{0, 0, 4999, 0, 5000}, 200000, [3]int64{4, 159500, impl.OK}},
		{star, 0, []int64{1, 1, 1, 1, 5000}, 200000, [3]int64{4, 159500, impl.OK}},
		// Several nodes have the least difference.
		{star, 0, []int64{0, 5000, 5000, 5000, 5000}, 200000, [3]int64{1, 159500, impl.OK}},
		{star, 0, []int64{5000, 0, 5000, 5000, 5000}, 200000, [3]int64{2, 159500, impl.OK}},
		{star, 0, []int64{9, 4999, 0, 5000, 5000}, 200000, [3]int64{3, 159500, impl.OK}},
		{star, 3, []int64{0, 0, 5000, 0, 5000}, 500000, [3]int64{2, 297500, impl.OK}},
		{wide, 0, []int64{1, 1, 1, 1}, 7, [3]int64{0, 7, impl.OK}}, {wide, 3, []int64{0, 1, 1, 1}, 7, [3]int64{1, 7, impl.OK}},
		// A node without a demand does not count, even if it is the first one with this difference.
		{wide, 0, []int64{0, 0, 1, 1}, 7, [3]int64{2, 7, impl.OK}}, {wide, 1, []int64{0, 0, 0, 9}, 7, [3]int64{3, 7, impl.OK}},
		{line, 0, []int64{0, 5000, 0}, 200000, [3]int64{1, 159500, impl.OK}},
		// The source counts as well if it has a demand.
		{line, 0, []int64{7, 0, 0}, 200000, [3]int64{0, 200000, impl.OK}}, {line, 1, []int64{0, 7, 0}, 0, [3]int64{1, 0, impl.OK}},
		{line, 2, []int64{0, 0, impl.MaxFlow}, impl.MaxPressure, [3]int64{2, impl.MaxPressure, impl.OK}},
		{networkOf(1), 0, []int64{1}, 5, [3]int64{0, 5, impl.OK}},
		// Differences may be 0 and negative.
		{line, 0, []int64{0, 5000, 0}, 40500, [3]int64{1, 0, impl.OK}}, {line, 0, []int64{0, 5000, 0}, 0, [3]int64{1, -40500, impl.OK}},
		{line, 0, []int64{0, 0, 5000}, 0, [3]int64{2, -81000, impl.OK}}, {line, 2, []int64{5000, 1, 1}, 1, [3]int64{0, -81015, impl.OK}},
		// Nobody needs water.
		{line, 0, []int64{0, 0, 0}, 200000, [3]int64{0, 0, impl.ErrNotFound}}, {networkOf(1), 0, []int64{0}, 5, [3]int64{0, 0, impl.ErrNotFound}},
		{lineOf(16), 9, make([]int64, 16), 0, [3]int64{0, 0, impl.ErrNotFound}},
		// A flow would be too great.
		{line, 0, []int64{0, impl.MaxFlow, 1}, 0, [3]int64{0, 0, impl.ErrFull}}, {wide, 3, []int64{impl.MaxFlow, 0, 1, 0}, 0, [3]int64{0, 0, impl.ErrFull}},
	}
	for _, c := range cases {
		checkWorst(t, c.n, c.source, c.demands, c.head, c.want)
	}
}

func TestLeastHead(t *testing.T) {
	line, _ := impl.ReadNetwork("0,9,-9/a 0,1,500,100,300/b 2,1,500,100,300")
	cases := []struct {
		n          impl.Network
		source     int64
		demands    []int64
		need, want int64
		code       int64
	}{
		{line, 0, []int64{0, 5000, 0}, 50000, 90500, impl.OK}, {line, 0, []int64{0, 0, 5000}, 50000, 131000, impl.OK},
		{line, 1, []int64{5000, 0, 5000}, 50000, 90500, impl.OK}, {line, 2, []int64{5000, 0, 0}, 50000, 131000, impl.OK},
		{line, 0, []int64{9, 5000, 0}, 0, 40500, impl.OK}, {line, 0, []int64{0, 1, 0}, 7, 7, impl.OK},
		// Only the source needs water, or nobody.
		{line, 1, []int64{0, 9, 0}, 50000, 50000, impl.OK}, {line, 1, []int64{0, 9, 0}, 0, 0, impl.OK},
		{line, 1, []int64{0, 0, 0}, 50000, 0, impl.OK}, {line, 1, []int64{0, 0, 0}, 0, 0, impl.OK},
		{networkOf(1), 0, []int64{0}, 50000, 0, impl.OK}, {networkOf(1), 0, []int64{3}, 50000, 50000, impl.OK},
		{lineOf(16), 7, make([]int64, 16), impl.MaxPressure, 0, impl.OK},
		// The head may be greater than any pressure.
		{line, 1, []int64{0, 9, 0}, impl.MaxPressure, impl.MaxPressure, impl.OK},
		{line, 0, []int64{0, 5000, 0}, impl.MaxPressure, impl.MaxPressure + 40500, impl.OK},
		{pressedChain(), 0, demandAt(16, 15, pressedFlow), impl.MaxPressure, 31 * impl.MaxPressure, impl.OK},
		{pressedChain(), 15, demandAt(16, 0, pressedFlow), 1, 30*impl.MaxPressure + 1, impl.OK},
		{pressedChain(), 8, demandAt(16, 0, pressedFlow), 0, 16 * impl.MaxPressure, impl.OK},
		{pressedChain(), 8, demandAt(16, 0, pressedFlow+1), 0, 0, impl.ErrFull},
		{line, 0, []int64{0, impl.MaxFlow, 1}, 0, 0, impl.ErrFull}, {line, 2, []int64{1, impl.MaxFlow, 0}, 0, 0, impl.ErrFull},
	}
	for _, c := range cases {
		got, code := impl.LeastHead(c.n, c.source, c.demands, c.need)
		checkCode(t, got, code, c.want, c.code, "LeastHead", c.n, c.source, c.demands, c.need)
	}
}

// isEnough reports whether with a head all nodes with a demand have the difference that they need.
func isEnough(n impl.Network, source int64, demands []int64, head, need int64) bool {
	for node, difference := range exactDifferences(n, source, exactFlows(n, source, demands), head) {
		if demands[node] > 0 && difference < need {
			return false
		}
	}
	return true
}

func TestLeastHeadIsEnoughForAll(t *testing.T) {
	random := rand.New(rand.NewSource(81))
	refused := 0
	for range 2000 {
		n := randomDistrict(random)
		demands, source := randomDemands(random, len(n.Nodes)), random.Int63n(int64(len(n.Nodes)))
		need := random.Int63n(impl.MaxPressure+1) >> random.Intn(28)
		flows := exactFlows(n, source, demands)
		head, code := impl.LeastHead(n, source, demands, need)
		if !areFlows(flows) || !hasDrops(n, flows) {
			checkCode(t, head, code, 0, impl.ErrFull, "LeastHead", n, source, demands, need)
			checkWorst(t, n, source, demands, need, [3]int64{0, 0, impl.ErrFull})
			refused++
			continue
		}
		if code != impl.OK || head < 0 || !isEnough(n, source, demands, head, need) {
			t.Errorf("LeastHead(%+v, %d, %d, %d) = %d, %d, which is not enough", n, source, demands, need, head, code)
		}
		if head > 0 && isEnough(n, source, demands, head-1, need) {
			t.Errorf("LeastHead(%+v, %d, %d, %d) = %d, but less is enough", n, source, demands, need, head)
		}
		differences := exactDifferences(n, source, flows, need)
		want := [3]int64{0, 0, impl.ErrNotFound}
		if worst := exactWorst(differences, demands); worst >= 0 {
			want = [3]int64{worst, differences[worst], impl.OK}
		}
		checkWorst(t, n, source, demands, need, want)
		if node, difference, code := impl.WorstNode(n, source, demands, head); code == impl.OK && difference != need {
			t.Errorf("with the least head %d of %+v the node %d has %d, not %d", head, n, node, difference, need)
		}
	}
	if refused < 100 || refused > 1900 {
		t.Errorf("%d of the demands have too great a flow or drop", refused)
	}
}
