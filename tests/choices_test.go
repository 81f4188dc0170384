package tests

import (
	"fmt"
	"math/rand"
	"slices"
	"testing"

	"loop.example/g01011/impl"
)

// Which pumps of a list are the cheapest ones.

// pumpsWith returns pumps with the same head at all flows from 0 to 10.
func pumpsWith(heads ...int64) []impl.Pump {
	var list []impl.Pump
	for i, head := range heads {
		list = append(list, steadyPump(fmt.Sprintf("p%d", i), head, 10))
	}
	return list
}

// nodesFor returns how many nodes the search through so many pumps has.
func nodesFor(pumps int) int64 {
	nodes, layer := int64(0), int64(1)
	for range pumps {
		layer *= 2
		nodes += layer
	}
	return nodes
}

// setsFrom calls visit with all sets of the numbers from one to before another one, behind those of a set, in
// lexicographic order.
func setsFrom(set []int64, from, until int64, visit func([]int64)) {
	visit(slices.Clone(set))
	for next := from; next < until; next++ {
		setsFrom(append(slices.Clone(set), next), next+1, until, visit)
	}
}

// exactCheapest tries all sets in lexicographic order, and keeps the first one with the least sum.
func exactCheapest(list []impl.Pump, static, coefficient, flow int64) (best []int64, least int64, found bool) {
	setsFrom(nil, 0, int64(len(list)), func(set []int64) {
		sum := int64(0)
		for _, index := range set {
			sum += exactHead(list[index], flow)
		}
		if sum >= exactSystem(static, coefficient, flow) && (!found || sum < least) {
			best, least, found = set, sum, true
		}
	})
	return best, least, found
}

// checkCheapest compares the cheapest pumps, their sum and code with what they should be.
func checkCheapest(t *testing.T, list []impl.Pump, numbers [4]int64, want []int64, wantSum, wantCode int64) {
	t.Helper()
	got, sum, code := impl.CheapestPumps(list, numbers[0], numbers[1], numbers[2], numbers[3])
	if !slices.Equal(got, want) || sum != wantSum || code != wantCode {
		t.Errorf("CheapestPumps(%v, %d) = %d, %d, %d, want %d, %d, %d", list, numbers, got, sum, code, want, wantSum, wantCode)
	}
}

func TestCheapestPumps(t *testing.T) {
	cases := []struct {
		heads      []int64
		need       int64
		want       []int64
		sum, state int64
	}{
		{[]int64{100, 30}, 25, []int64{1}, 30, impl.OK}, {[]int64{100, 30}, 31, []int64{0}, 100, impl.OK}, {[]int64{100, 30}, 101, []int64{0, 1}, 130, impl.OK},
		{[]int64{100, 30}, 130, []int64{0, 1}, 130, impl.OK}, {[]int64{100, 30}, 131, nil, 0, impl.ErrNotFound}, {[]int64{100, 30}, 0, nil, 0, impl.OK},
		// Sets with the same sum.
		{[]int64{3, 1, 2}, 3, []int64{0}, 3, impl.OK}, {[]int64{1, 2, 3}, 3, []int64{0, 1}, 3, impl.OK}, {[]int64{2, 3, 1}, 3, []int64{0, 2}, 3, impl.OK},
		{[]int64{5, 5, 5}, 5, []int64{0}, 5, impl.OK}, {[]int64{5, 5, 5}, 6, []int64{0, 1}, 10, impl.OK}, {[]int64{7, 2, 5, 2, 5}, 7, []int64{0}, 7, impl.OK},
		{[]int64{8, 2, 5, 2, 5}, 7, []int64{1, 2}, 7, impl.OK}, {[]int64{4, 1, 2, 1, 4}, 4, []int64{0}, 4, impl.OK}, {[]int64{3, 1, 2, 1, 4}, 4, []int64{0, 1}, 4, impl.OK},
		// Sets of which one begins another one, and pumps without a head.
		{[]int64{5, 0}, 5, []int64{0}, 5, impl.OK}, {[]int64{0, 5}, 5, []int64{0, 1}, 5, impl.OK}, {[]int64{0, 0, 5, 0}, 5, []int64{0, 1, 2}, 5, impl.OK},
		{[]int64{9, 0, 5, 0}, 5, []int64{1, 2}, 5, impl.OK}, {[]int64{0, 0}, 0, nil, 0, impl.OK}, {[]int64{0, 0}, 1, nil, 0, impl.ErrNotFound},
		{nil, 0, nil, 0, impl.OK}, {nil, 1, nil, 0, impl.ErrNotFound},
		{[]int64{128, 64, 32, 16, 8, 4, 2, 1}, 165, []int64{0, 2, 5, 7}, 165, impl.OK}, {[]int64{128, 64, 32, 16, 8, 4, 2, 1}, 255, first(8), 255, impl.OK},
		{slices.Repeat([]int64{impl.MaxHead}, 8), impl.MaxHead, []int64{0}, impl.MaxHead, impl.OK},
		{slices.Repeat([]int64{impl.MaxHead / 8}, 8), impl.MaxHead, first(8), impl.MaxHead, impl.OK},
	}
	for _, c := range cases {
		checkCheapest(t, pumpsWith(c.heads...), [4]int64{c.need, 0, 10, impl.MaxBudget}, c.want, c.sum, c.state)
		checkCheapest(t, pumpsWith(c.heads...), [4]int64{c.need, 0, 0, impl.MaxBudget}, c.want, c.sum, c.state)
	}
	two := []impl.Pump{mainPump(), steppedPump()}
	// The flow tells which heads there are, and the coefficient how much the system needs.
	checkCheapest(t, two, [4]int64{4000, 0, 5000, 6}, []int64{1}, 4000, impl.OK)
	checkCheapest(t, two, [4]int64{4000, 0, 5001, 6}, []int64{0}, 49990, impl.OK)
	checkCheapest(t, two, [4]int64{0, coefficientLimit, 100, 6}, []int64{1}, 5000, impl.OK)
	checkCheapest(t, two, [4]int64{0, 2000000, 5000, 6}, []int64{0}, 50000, impl.OK)
	checkCheapest(t, two, [4]int64{0, 20000000, 5000, 6}, []int64{0}, 50000, impl.OK)
	checkCheapest(t, two, [4]int64{0, 20000400, 5000, 6}, []int64{0, 1}, 54000, impl.OK)
	checkCheapest(t, two, [4]int64{0, 21600200, 5000, 6}, nil, 0, impl.ErrNotFound)
	checkCheapest(t, two, [4]int64{0, 0, 10001, 6}, nil, 0, impl.OK)
	checkCheapest(t, two, [4]int64{1, 0, 10001, 6}, nil, 0, impl.ErrNotFound)
}

func TestNoPumpsAreCheaper(t *testing.T) {
	random := rand.New(rand.NewSource(89))
	for range 300 {
		count := random.Intn(impl.MaxPumps + 1)
		var heads []int64
		for range count {
			heads = append(heads, random.Int63n(1+1<<random.Intn(12)))
		}
		list := pumpsWith(heads...)
		for i := range list {
			if random.Intn(3) == 0 {
				list[i] = randomPump(random, list[i].Id)
			}
		}
		flow, coefficient := random.Int63n(14), random.Int63n(coefficientLimit+1)
		static := random.Int63n(1 + sumOf(heads))
		want, sum, found := exactCheapest(list, static, coefficient, flow)
		code := int64(impl.OK)
		if !found {
			code = impl.ErrNotFound
		}
		checkCheapest(t, list, [4]int64{static, coefficient, flow, max(1, nodesFor(count))}, want, sum, code)
	}
}

func TestCheapestPumpsWithinABudget(t *testing.T) {
	for count := range impl.MaxPumps + 1 {
		list := pumpsWith(slices.Repeat([]int64{7}, count)...)
		nodes := nodesFor(count)
		for _, need := range []int64{0, 1, 7 * int64(count)} {
			want := first((need + 6) / 7)
			if int(need) > 7*count {
				continue
			}
			for budget := range nodes {
				if budget > 0 {
					checkCheapest(t, list, [4]int64{need, 0, 5, budget}, nil, 0, impl.ErrFull)
				}
			}
			for _, budget := range []int64{max(1, nodes), nodes + 1, impl.MaxBudget} {
				checkCheapest(t, list, [4]int64{need, 0, 5, budget}, want, 7*int64(len(want)), impl.OK)
			}
		}
		// That no set is enough is told before the budget is spent.
		for _, budget := range []int64{1, max(1, nodes-1), max(1, nodes), impl.MaxBudget} {
			checkCheapest(t, list, [4]int64{7*int64(count) + 1, 0, 5, budget}, nil, 0, impl.ErrNotFound)
		}
	}
}

// invalidPumpLists have one thing wrong.
func invalidPumpLists() [][]impl.Pump {
	a, b, c := steadyPump("a", 1, 1), steadyPump("b", 1, 1), steadyPump("c", 1, 1)
	lists := [][]impl.Pump{
		{a, a}, {b, a}, {a, c, b}, {a, b, b}, {a, a, b}, make([]impl.Pump, impl.MaxPumps+1), make([]impl.Pump, 100000),
		append(pumpsWith(1, 2, 3, 4, 5, 6, 7, 8), steadyPump("q", 1, 1)), {steadyPump("p10", 1, 1), steadyPump("p1", 1, 1)},
	}
	for _, p := range invalidPumps() {
		lists = append(lists, []impl.Pump{p}, append(pumpsWith(1, 2), p), []impl.Pump{p, steadyPump("z", 1, 1)})
	}
	return lists
}

func TestCheapestPumpsErrorsInOrder(t *testing.T) {
	var wrong [][4]int64
	for _, n := range beyond(0, impl.MaxHead) {
		wrong = append(wrong, [4]int64{n, 0, 0, 100}, [4]int64{n, 0, 0, 1})
	}
	for _, n := range beyond(0, coefficientLimit) {
		wrong = append(wrong, [4]int64{0, n, 0, 100}, [4]int64{impl.MaxHead, n, impl.MaxFlow, 1})
	}
	for _, n := range beyond(0, impl.MaxFlow) {
		wrong = append(wrong, [4]int64{0, 0, n, 100}, [4]int64{impl.MaxHead, coefficientLimit, n, 1})
	}
	for _, n := range append(beyond(1, impl.MaxBudget), -1) {
		wrong = append(wrong, [4]int64{0, 0, 0, n}, [4]int64{impl.MaxHead, coefficientLimit, impl.MaxFlow, n})
	}
	for _, numbers := range wrong {
		for _, list := range [][]impl.Pump{nil, pumpsWith(1), pumpsWith(1, 2, 3, 4, 5, 6, 7, 8), {mainPump(), steppedPump()}} {
			checkCheapest(t, list, numbers, nil, 0, impl.ErrRange)
		}
		for _, list := range [][]impl.Pump{{{}}, pumpsWith(1, -1), {mainPump(), mainPump()}} {
			checkCheapest(t, list, numbers, nil, 0, impl.ErrInvalid)
		}
	}
	for _, list := range invalidPumpLists() {
		got, sum, code := impl.CheapestPumps(list, 0, 0, 0, 100)
		if len(got) != 0 || sum != 0 || code != impl.ErrInvalid {
			t.Errorf("CheapestPumps(%v) = %d, %d, %d", list[:min(len(list), 10)], got, sum, code)
		}
	}
	// Just at the limits.
	checkCheapest(t, pumpsWith(1), [4]int64{impl.MaxHead, coefficientLimit, impl.MaxFlow, impl.MaxBudget}, nil, 0, impl.ErrNotFound)
	checkCheapest(t, nil, [4]int64{0, 0, 0, 1}, nil, 0, impl.OK)
}
