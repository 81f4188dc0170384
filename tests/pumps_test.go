package tests

import (
	"fmt"
	"math/rand"
	"slices"
	"strings"
	"testing"

	"loop.example/g01011/impl"
)

// Promise 9: a working flow is the last one that is possible, and the least speed is enough.

const (
	coefficientLimit = 100000000
	leastSpeed       = 100
	greatestSpeed    = 1200
)

// pumpOf returns a pump with points of a flow and a head each.
func pumpOf(id string, points ...[2]int64) impl.Pump {
	p := impl.Pump{Id: id}
	for _, c := range points {
		p.Curve = append(p.Curve, []int64{c[0], c[1]})
	}
	return p
}

func mainPump() impl.Pump {
	return pumpOf("main", [2]int64{0, 100000}, [2]int64{10000, 0})
}

// steppedPump has a head that stays the same for a while, and one at its last point.
func steppedPump() impl.Pump {
	return pumpOf("stepped", [2]int64{0, 5000}, [2]int64{1000, 5000}, [2]int64{1003, 4000}, [2]int64{5000, 4000}, [2]int64{7000, 250})
}

// steadyPump has the same head up to its last flow.
func steadyPump(id string, head, last int64) impl.Pump {
	return pumpOf(id, [2]int64{0, head}, [2]int64{last, head})
}

// fullPump has as many points as possible, a tenth of the greatest flow from one to the next one.
func fullPump() impl.Pump {
	p := impl.Pump{Id: "full"}
	for i := range int64(impl.MaxPoints) {
		p.Curve = append(p.Curve, []int64{i * impl.MaxFlow / 10, impl.MaxHead - i*i*40000})
	}
	return p
}

func validPumps() []impl.Pump {
	return []impl.Pump{
		mainPump(), steppedPump(), fullPump(), steadyPump("a", 0, 1), steadyPump("abcdefghij", impl.MaxHead, impl.MaxFlow),
		pumpOf("p7", [2]int64{0, impl.MaxHead}, [2]int64{1, 0}), pumpOf("z", [2]int64{0, 1}, [2]int64{impl.MaxFlow, 0}),
		pumpOf("b", [2]int64{0, 9}, [2]int64{1, 9}, [2]int64{2, 8}, [2]int64{impl.MaxFlow, 8}),
	}
}

// invalidPumps are those with one thing wrong.
func invalidPumps() []impl.Pump {
	list := []impl.Pump{
		{}, {Id: "a"}, {Id: "a", Curve: [][]int64{}}, pumpOf("a", [2]int64{0, 5}), {Id: "a", Curve: make([][]int64, 3)},
		{Id: "a", Curve: [][]int64{nil, {5, 5}}}, {Id: "a", Curve: [][]int64{{0, 5}, {}}}, {Id: "a", Curve: [][]int64{{0, 5}, {5}}},
		{Id: "a", Curve: [][]int64{{0, 5, 0}, {5, 5}}}, {Id: "a", Curve: [][]int64{{0, 5}, {5, 5, 5}}}, {Id: "a", Curve: make([][]int64, 100000)},
		// The first flow is not 0, or a later one is not greater.
		pumpOf("a", [2]int64{1, 5}, [2]int64{2, 5}), pumpOf("a", [2]int64{-1, 5}, [2]int64{2, 5}), pumpOf("a", [2]int64{-1, 5}, [2]int64{0, 5}, [2]int64{2, 5}),
		pumpOf("a", [2]int64{0, 5}, [2]int64{0, 5}), pumpOf("a", [2]int64{0, 5}, [2]int64{0, 4}), pumpOf("a", [2]int64{0, 5}, [2]int64{3, 4}, [2]int64{3, 4}),
		pumpOf("a", [2]int64{0, 5}, [2]int64{3, 4}, [2]int64{2, 3}), pumpOf("a", [2]int64{0, 5}, [2]int64{3, 4}, [2]int64{0, 3}),
		// A head rises.
		pumpOf("a", [2]int64{0, 5}, [2]int64{1, 6}), pumpOf("a", [2]int64{0, 5}, [2]int64{1, 4}, [2]int64{2, 5}), pumpOf("a", [2]int64{0, 0}, [2]int64{1, 0}, [2]int64{2, 1}),
	}
	for _, id := range append(notNames(), "a:1") {
		list = append(list, steadyPump(id, 5, 5))
	}
	for _, n := range beyond(0, impl.MaxFlow) {
		list = append(list, steadyPump("a", 5, n), pumpOf("a", [2]int64{0, 5}, [2]int64{n, 5}, [2]int64{50, 5}), pumpOf("a", [2]int64{n, 5}, [2]int64{50, 5}))
	}
	for _, n := range beyond(0, impl.MaxHead) {
		list = append(list, steadyPump("a", n, 5), pumpOf("a", [2]int64{0, n}, [2]int64{5, 5}), pumpOf("a", [2]int64{0, 5}, [2]int64{5, n}))
	}
	long := fullPump()
	long.Curve = append(long.Curve, []int64{impl.MaxFlow, 0})
	return append(list, long)
}

// someInvalidPumps are enough where all of them would take too long.
func someInvalidPumps() []impl.Pump {
	list := invalidPumps()
	return []impl.Pump{list[0], list[3], list[8], list[11], list[17], list[len(list)-1]}
}

func randomPump(random *rand.Rand, id string) impl.Pump {
	count := 2 + random.Intn(impl.MaxPoints-1)
	widest, steepest := 1+int64(impl.MaxFlow/count)>>random.Intn(14), 1+int64(impl.MaxHead/count)>>random.Intn(18)
	flow, head := int64(0), random.Int63n(impl.MaxHead+1)>>random.Intn(18)
	p := impl.Pump{Id: id}
	for range count {
		p.Curve = append(p.Curve, []int64{flow, head})
		flow += 1 + random.Int63n(widest)
		head = max(0, head-random.Int63n(steepest))
	}
	return p
}

// randomSystem returns a static part and a coefficient.
func randomSystem(random *rand.Rand) (int64, int64) {
	return random.Int63n(impl.MaxHead+1) >> random.Intn(22), random.Int63n(coefficientLimit+1) >> random.Intn(28)
}

func randomSupply(random *rand.Rand) int64 {
	return random.Int63n(impl.MaxFlow+1) >> random.Intn(17)
}

// exactHead is the head of a pump by its definition.
func exactHead(p impl.Pump, flow int64) int64 {
	var places []place
	for _, c := range p.Curve {
		places = append(places, place{c[0], c[1]})
	}
	// Behind the last place it is 0.
	return between(places, flow)
}

// exactSystem is the head of a system by its definition.
func exactSystem(static, coefficient, flow int64) int64 {
	return static + quotientOf(10000000000, coefficient, flow, flow)
}

// exactSpeed is the pump at another speed, which may not be valid.
func exactSpeed(p impl.Pump, speed int64) impl.Pump {
	slow := impl.Pump{Id: p.Id}
	for _, c := range p.Curve {
		slow.Curve = append(slow.Curve, []int64{quotientOf(1000, c[0], speed), quotientOf(1000000, c[1], speed, speed)})
	}
	return slow
}

// isPossible reports whether a pump can push a flow through a system.
func isPossible(p impl.Pump, static, coefficient, flow int64) bool {
	return exactSystem(static, coefficient, flow) <= exactHead(p, flow)
}

func checkPump(t *testing.T, got impl.Pump, code int64, want impl.Pump, wantCode int64, what string, arguments ...any) {
	t.Helper()
	if !impl.SamePump(got, want) || code != wantCode {
		t.Errorf("%s%v = %v, %d, want %v, %d", what, arguments, got, code, want, wantCode)
	}
}

func TestValidPump(t *testing.T) {
	random := rand.New(rand.NewSource(80))
	pumps := validPumps()
	for range 300 {
		pumps = append(pumps, randomPump(random, "any"))
	}
	for _, p := range pumps {
		if !impl.ValidPump(p) {
			t.Errorf("ValidPump(%v) = false", p)
		}
	}
	for _, p := range invalidPumps() {
		if impl.ValidPump(p) {
			t.Errorf("ValidPump(%v) = true", p)
		}
	}
}

func TestSamePump(t *testing.T) {
	pumps := append(validPumps(), invalidPumps()...)
	for i, a := range pumps {
		for j, b := range pumps {
			// The texts of nil and of empty lists are the same, and so are these pumps.
			want := fmt.Sprintf("%q %v", a.Id, a.Curve) == fmt.Sprintf("%q %v", b.Id, b.Curve)
			if got := impl.SamePump(a, b); got != want {
				t.Errorf("SamePump(%v, %v) = %v, of places %d and %d", a, b, got, i, j)
			}
		}
	}
	other := mainPump()
	other.Curve[1][1]++
	if impl.SamePump(mainPump(), other) {
		t.Error("a pump is the same with another head")
	}
	if !impl.SamePump(impl.Pump{Curve: [][]int64{nil}}, impl.Pump{Curve: [][]int64{{}}}) {
		t.Error("a pump without numbers is not the same as one with none")
	}
}

func TestHeadAt(t *testing.T) {
	cases := []struct {
		p          impl.Pump
		flow, want int64
	}{
		{pumpOf("a", [2]int64{0, 1000}, [2]int64{10000, 0}), 5000, 500}, {mainPump(), 5000, 50000},
		{mainPump(), 0, 100000}, {mainPump(), 1, 99990}, {mainPump(), 9999, 10}, {mainPump(), 10000, 0}, {mainPump(), 10001, 0},
		{mainPump(), impl.MaxFlow, 0},
		// At its points, between them, and behind the last one, where the head is gone at once.
		{steppedPump(), 0, 5000}, {steppedPump(), 500, 5000}, {steppedPump(), 1000, 5000}, {steppedPump(), 1001, 4667},
		{steppedPump(), 1002, 4333}, {steppedPump(), 1003, 4000}, {steppedPump(), 4000, 4000}, {steppedPump(), 5000, 4000},
		{steppedPump(), 5001, 3998}, {steppedPump(), 6999, 252}, {steppedPump(), 7000, 250}, {steppedPump(), 7001, 0},
		{steadyPump("a", impl.MaxHead, impl.MaxFlow), impl.MaxFlow, impl.MaxHead}, {steadyPump("a", 9, 1), 1, 9}, {steadyPump("a", 9, 1), 2, 0},
		// Halves are rounded away from the head of the left point.
		{pumpOf("a", [2]int64{0, 1}, [2]int64{2, 0}), 1, 0}, {pumpOf("a", [2]int64{0, 4}, [2]int64{2, 1}), 1, 2},
		{pumpOf("a", [2]int64{0, 1}, [2]int64{impl.MaxFlow, 0}), 49999, 1}, {pumpOf("a", [2]int64{0, 1}, [2]int64{impl.MaxFlow, 0}), 50000, 0},
		{fullPump(), 70000, 40000}, {fullPump(), 65000, 300000}, {fullPump(), 70001, 0},
	}
	for _, c := range cases {
		got, code := impl.HeadAt(c.p, c.flow)
		checkCode(t, got, code, c.want, impl.OK, "HeadAt", c.p, c.flow)
	}
	random := rand.New(rand.NewSource(81))
	for range 500 {
		p := randomPump(random, "any")
		for _, c := range p.Curve {
			for _, flow := range []int64{c[0], c[0] + 1, max(0, c[0]-1), randomSupply(random)} {
				flow = min(flow, impl.MaxFlow)
				got, code := impl.HeadAt(p, flow)
				checkCode(t, got, code, exactHead(p, flow), impl.OK, "HeadAt", p, flow)
			}
		}
	}
}

func TestSystemHead(t *testing.T) {
	cases := []struct{ static, coefficient, flow, want int64 }{
		{10000, 1000000, 5000, 12500}, {0, 0, 0, 0}, {7, 0, impl.MaxFlow, 7}, {impl.MaxHead, 0, 0, impl.MaxHead},
		{0, coefficientLimit, impl.MaxFlow, 100000000}, {impl.MaxHead, coefficientLimit, impl.MaxFlow, 102000000},
		{5, coefficientLimit, 0, 5}, {0, 1, impl.MaxFlow, 1}, {0, 1, 70710, 0}, {0, 1, 70711, 1}, {0, 5000, 1000, 1}, {0, 4999, 1000, 0},
		{3, 15000, 1000, 5}, {0, coefficientLimit, 7, 0}, {0, coefficientLimit, 8, 1}, {0, 50000000, 10, 1},
	}
	for _, c := range cases {
		got, code := impl.SystemHead(c.static, c.coefficient, c.flow)
		checkCode(t, got, code, c.want, impl.OK, "SystemHead", c.static, c.coefficient, c.flow)
	}
	random := rand.New(rand.NewSource(82))
	for range 3000 {
		static, coefficient := randomSystem(random)
		flow := randomSupply(random)
		got, code := impl.SystemHead(static, coefficient, flow)
		checkCode(t, got, code, exactSystem(static, coefficient, flow), impl.OK, "SystemHead", static, coefficient, flow)
	}
	for _, n := range beyond(0, impl.MaxHead) {
		got, code := impl.SystemHead(n, 0, 0)
		checkCode(t, got, code, 0, impl.ErrRange, "SystemHead", n, 0, 0)
	}
	for _, n := range beyond(0, coefficientLimit) {
		got, code := impl.SystemHead(0, n, 0)
		checkCode(t, got, code, 0, impl.ErrRange, "SystemHead", 0, n, 0)
	}
	for _, n := range beyond(0, impl.MaxFlow) {
		got, code := impl.SystemHead(0, 0, n)
		checkCode(t, got, code, 0, impl.ErrRange, "SystemHead", 0, 0, n)
	}
}

// checkWorking compares a working flow, its head and its code with what they should be.
func checkWorking(t *testing.T, p impl.Pump, static, coefficient int64, want [3]int64) {
	t.Helper()
	flow, head, code := impl.WorkingFlow(p, static, coefficient)
	if got := [3]int64{flow, head, code}; got != want {
		t.Errorf("WorkingFlow(%v, %d, %d) = %d, want %d", p, static, coefficient, got, want)
	}
}

func TestWorkingFlow(t *testing.T) {
	cases := []struct {
		p                   impl.Pump
		static, coefficient int64
		want                [3]int64
	}{
		{mainPump(), 0, 10000000, [3]int64{6180, 38200, impl.OK}},
		// The head of the system is just that of the pump: at the flow 0, at one on the way, and at the last point.
		{mainPump(), 100000, 0, [3]int64{0, 100000, impl.OK}}, {mainPump(), 50000, 0, [3]int64{5000, 50000, impl.OK}},
		{mainPump(), 10, 0, [3]int64{9999, 10, impl.OK}}, {mainPump(), 1, 0, [3]int64{9999, 10, impl.OK}},
		{steppedPump(), 5000, 0, [3]int64{1000, 5000, impl.OK}}, {steppedPump(), 4000, 0, [3]int64{5000, 4000, impl.OK}},
		{steppedPump(), 250, 0, [3]int64{7000, 250, impl.OK}}, {steppedPump(), 1, 0, [3]int64{7000, 250, impl.OK}},
		{mainPump(), 100000, coefficientLimit, [3]int64{0, 100000, impl.OK}},
		{mainPump(), 99999, coefficientLimit, [3]int64{0, 100000, impl.OK}},
		// The system is too high already at the flow 0.
		{mainPump(), 100001, 0, [3]int64{0, 0, impl.ErrNotFound}}, {mainPump(), impl.MaxHead, coefficientLimit, [3]int64{0, 0, impl.ErrNotFound}},
		{steadyPump("a", 0, 1), 1, 0, [3]int64{0, 0, impl.ErrNotFound}}, {steppedPump(), 5001, 0, [3]int64{0, 0, impl.ErrNotFound}},
		// Behind the last point the pump has the head 0, which is enough as long as the system has none.
		{mainPump(), 0, 0, [3]int64{impl.MaxFlow, 0, impl.OK}}, {steadyPump("a", 0, 1), 0, 0, [3]int64{impl.MaxFlow, 0, impl.OK}},
		{steppedPump(), 0, 1, [3]int64{70710, 0, impl.OK}}, {steadyPump("a", 0, 1), 0, coefficientLimit, [3]int64{7, 0, impl.OK}},
		{steadyPump("a", 1, 50), 0, coefficientLimit, [3]int64{12, 1, impl.OK}}, {steadyPump("a", 1, 10), 0, coefficientLimit, [3]int64{10, 1, impl.OK}},
		{steadyPump("a", impl.MaxHead, impl.MaxFlow), impl.MaxHead, 0, [3]int64{impl.MaxFlow, impl.MaxHead, impl.OK}},
		{steadyPump("a", impl.MaxHead, impl.MaxFlow), 0, coefficientLimit, [3]int64{14142, impl.MaxHead, impl.OK}},
	}
	for _, c := range cases {
		checkWorking(t, c.p, c.static, c.coefficient, c.want)
	}
}

func TestWorkingFlowsAreTheLastPossibleOnes(t *testing.T) {
	random := rand.New(rand.NewSource(83))
	found := 0
	for range 3000 {
		p := randomPump(random, "any")
		static, coefficient := randomSystem(random)
		flow, head, code := impl.WorkingFlow(p, static, coefficient)
		if code == impl.ErrNotFound {
			if isPossible(p, static, coefficient, 0) || flow != 0 || head != 0 {
				t.Errorf("WorkingFlow(%v, %d, %d) = %d, %d, %d", p, static, coefficient, flow, head, code)
			}
			continue
		}
		found++
		// Heads of systems do not fall and those of pumps do not rise, so nothing that comes later is possible either.
		isLast := flow == impl.MaxFlow || !isPossible(p, static, coefficient, flow+1)
		if code != impl.OK || !isPossible(p, static, coefficient, flow) || !isLast || head != exactHead(p, flow) {
			t.Errorf("WorkingFlow(%v, %d, %d) = %d, %d, %d", p, static, coefficient, flow, head, code)
		}
	}
	if found < 500 {
		t.Errorf("only %d pumps have a working flow", found)
	}
	for range 3 {
		p := randomPump(random, "any")
		_, coefficient := randomSystem(random)
		static := p.Curve[0][1] / 2
		last := int64(0)
		for flow := range int64(impl.MaxFlow + 1) {
			if isPossible(p, static, coefficient, flow) {
				last = flow
			}
		}
		checkWorking(t, p, static, coefficient, [3]int64{last, exactHead(p, last), impl.OK})
	}
}

func TestSlowPump(t *testing.T) {
	cases := []struct {
		p     impl.Pump
		speed int64
		want  impl.Pump
		code  int64
	}{
		{mainPump(), 500, pumpOf("main", [2]int64{0, 25000}, [2]int64{5000, 0}), impl.OK},
		{mainPump(), 100, pumpOf("main", [2]int64{0, 1000}, [2]int64{1000, 0}), impl.OK},
		{mainPump(), 1000, mainPump(), impl.OK}, {steppedPump(), 1000, steppedPump(), impl.OK}, {fullPump(), 1000, fullPump(), impl.OK},
		{mainPump(), 1200, pumpOf("main", [2]int64{0, 144000}, [2]int64{12000, 0}), impl.OK},
		{mainPump(), 999, pumpOf("main", [2]int64{0, 99800}, [2]int64{9990, 0}), impl.OK},
		{steppedPump(), 500, pumpOf("stepped", [2]int64{0, 1250}, [2]int64{500, 1250}, [2]int64{502, 1000}, [2]int64{2500, 1000}, [2]int64{3500, 63}), impl.OK},
		// A half is rounded up: the flow 1 is 1 still at half the speed, and 0 below it.
		{steadyPump("a", 2, 1), 500, steadyPump("a", 1, 1), impl.OK}, {steadyPump("a", 2, 1), 499, impl.Pump{}, impl.ErrState},
		{steadyPump("a", 2, 1), 100, impl.Pump{}, impl.ErrState}, {steadyPump("a", 2, 1), 1200, steadyPump("a", 3, 1), impl.OK},
		// Two flows coincide at some speeds, and do not at lower ones.
		{pumpOf("a", [2]int64{0, 9}, [2]int64{3, 9}, [2]int64{4, 9}), 500, impl.Pump{}, impl.ErrState},
		{pumpOf("a", [2]int64{0, 9}, [2]int64{3, 9}, [2]int64{4, 9}), 400, pumpOf("a", [2]int64{0, 1}, [2]int64{1, 1}, [2]int64{2, 1}), impl.OK},
		// Just at the greatest flow and head, and just beyond them.
		{steadyPump("a", 1, 83333), 1200, steadyPump("a", 1, 100000), impl.OK}, {steadyPump("a", 1, 83334), 1200, impl.Pump{}, impl.ErrState},
		{steadyPump("a", 1388889, 5), 1200, steadyPump("a", 2000000, 6), impl.OK}, {steadyPump("a", 1388890, 5), 1200, impl.Pump{}, impl.ErrState},
		{steadyPump("a", 1, impl.MaxFlow), 1000, steadyPump("a", 1, impl.MaxFlow), impl.OK}, {steadyPump("a", 1, impl.MaxFlow), 1001, impl.Pump{}, impl.ErrState},
		{steadyPump("a", impl.MaxHead, 9), 1000, steadyPump("a", impl.MaxHead, 9), impl.OK}, {steadyPump("a", impl.MaxHead, 9), 1001, impl.Pump{}, impl.ErrState},
	}
	for _, c := range cases {
		got, code := impl.SlowPump(c.p, c.speed)
		checkPump(t, got, code, c.want, c.code, "SlowPump", c.p, c.speed)
	}
	random := rand.New(rand.NewSource(84))
	for range 2000 {
		p := randomPump(random, "any")
		speed := leastSpeed + random.Int63n(greatestSpeed-leastSpeed+1)
		want, wantCode := exactSpeed(p, speed), int64(impl.OK)
		if !impl.ValidPump(want) {
			want, wantCode = impl.Pump{}, impl.ErrState
		}
		got, code := impl.SlowPump(p, speed)
		checkPump(t, got, code, want, wantCode, "SlowPump", p, speed)
	}
}

// exactRow are two pumps, one behind the other, by their definition.
func exactRow(a, b impl.Pump) (impl.Pump, int64) {
	row := impl.Pump{Id: a.Id}
	for flow := range min(a.Curve[len(a.Curve)-1][0], b.Curve[len(b.Curve)-1][0]) + 1 {
		isAt := func(c []int64) bool { return c[0] == flow }
		if slices.ContainsFunc(a.Curve, isAt) || slices.ContainsFunc(b.Curve, isAt) {
			row.Curve = append(row.Curve, []int64{flow, exactHead(a, flow) + exactHead(b, flow)})
		}
	}
	if len(row.Curve) > impl.MaxPoints {
		return impl.Pump{}, impl.ErrFull
	}
	if !impl.ValidPump(row) {
		return impl.Pump{}, impl.ErrState
	}
	return row, impl.OK
}

func TestPumpsInRow(t *testing.T) {
	small := pumpOf("small", [2]int64{0, 100}, [2]int64{100, 50})
	cases := []struct {
		a, b, want impl.Pump
		code       int64
	}{
		{mainPump(), mainPump(), pumpOf("main", [2]int64{0, 200000}, [2]int64{10000, 0}), impl.OK},
		{fullPump(), steadyPump("b", 0, 70000), fullPump(), impl.OK},
		// The last flow is the lesser one, and each pump has a point where the other one has none.
		{mainPump(), small, pumpOf("main", [2]int64{0, 100100}, [2]int64{100, 99050}), impl.OK},
		{small, mainPump(), pumpOf("small", [2]int64{0, 100100}, [2]int64{100, 99050}), impl.OK},
		{steppedPump(), steadyPump("b", 10, 1001), pumpOf("stepped", [2]int64{0, 5010}, [2]int64{1000, 5010}, [2]int64{1001, 4677}), impl.OK},
		{mainPump(), steadyPump("b", 0, 1), pumpOf("main", [2]int64{0, 100000}, [2]int64{1, 99990}), impl.OK},
		{steadyPump("a", 5, 10), steadyPump("b", 6, 20), steadyPump("a", 11, 10), impl.OK},
		// More points than a pump may have, if all of them are below the last flow.
		{fullPump(), steadyPump("b", 0, impl.MaxFlow), fullPump(), impl.OK},
		{fullPump(), steadyPump("b", 0, 69999), pumpOf("full", [2]int64{0, 2000000}, [2]int64{10000, 1960000}, [2]int64{20000, 1840000},
			[2]int64{30000, 1640000}, [2]int64{40000, 1360000}, [2]int64{50000, 1000000}, [2]int64{60000, 560000}, [2]int64{69999, 40052}), impl.OK},
		{fullPump(), pumpOf("b", [2]int64{0, 0}, [2]int64{1, 0}, [2]int64{impl.MaxFlow, 0}), impl.Pump{}, impl.ErrFull},
		{pumpOf("b", [2]int64{0, 0}, [2]int64{69999, 0}, [2]int64{70000, 0}), fullPump(), impl.Pump{}, impl.ErrFull},
		// The head is just the greatest one, and just beyond it.
		{steadyPump("a", impl.MaxHead, 5), steadyPump("b", 0, 5), steadyPump("a", impl.MaxHead, 5), impl.OK},
		{steadyPump("a", impl.MaxHead, 5), steadyPump("b", 1, 5), impl.Pump{}, impl.ErrState},
		{steadyPump("a", 1000000, 5), steadyPump("b", 1000001, 5), impl.Pump{}, impl.ErrState},
		// Too many points count before a head that is too great.
		{fullPump(), pumpOf("b", [2]int64{0, 1}, [2]int64{1, 1}, [2]int64{impl.MaxFlow, 1}), impl.Pump{}, impl.ErrFull},
		{fullPump(), fullPump(), impl.Pump{}, impl.ErrState},
	}
	for _, c := range cases {
		got, code := impl.PumpsInRow(c.a, c.b)
		checkPump(t, got, code, c.want, c.code, "PumpsInRow", c.a, c.b)
	}
	random := rand.New(rand.NewSource(85))
	codes := map[int64]int{}
	for range 300 {
		a, b := randomPump(random, "a"), randomPump(random, "b")
		want, wantCode := exactRow(a, b)
		got, code := impl.PumpsInRow(a, b)
		checkPump(t, got, code, want, wantCode, "PumpsInRow", a, b)
		codes[code]++
	}
	if codes[impl.OK] < 20 || codes[impl.ErrFull] < 20 || codes[impl.ErrState] < 5 {
		t.Errorf("the codes of pumps in a row are %v", codes)
	}
	for _, p := range invalidPumps() {
		for _, good := range []impl.Pump{mainPump(), fullPump()} {
			got, code := impl.PumpsInRow(p, good)
			checkPump(t, got, code, impl.Pump{}, impl.ErrInvalid, "PumpsInRow", p, good)
			got, code = impl.PumpsInRow(good, p)
			checkPump(t, got, code, impl.Pump{}, impl.ErrInvalid, "PumpsInRow", good, p)
		}
	}
}

func TestElectricPower(t *testing.T) {
	cases := []struct {
		p                      impl.Pump
		flow, efficiency, want int64
	}{
		{mainPump(), 5000, 500, 500}, {mainPump(), 5000, 1000, 250}, {mainPump(), 5000, 1, 250000}, {mainPump(), 0, 1, 0},
		{mainPump(), 10001, 1, 0}, {steadyPump("a", impl.MaxHead, impl.MaxFlow), impl.MaxFlow, 1, 200000000},
		{steadyPump("a", impl.MaxHead, impl.MaxFlow), impl.MaxFlow, 1000, 200000}, {steadyPump("a", 500, 2), 1, 1000, 0},
		{steadyPump("a", 500, 2), 1, 1, 1}, {steadyPump("a", 499, 2), 1, 1, 0}, {steadyPump("a", 500, 2), 2, 3, 0}, {steadyPump("a", 1500, 2), 2, 2, 2},
	}
	for _, c := range cases {
		got, code := impl.ElectricPower(c.p, c.flow, c.efficiency)
		checkCode(t, got, code, c.want, impl.OK, "ElectricPower", c.p, c.flow, c.efficiency)
	}
	random := rand.New(rand.NewSource(86))
	for range 2000 {
		p, flow, efficiency := randomPump(random, "any"), randomSupply(random), 1+random.Int63n(1000)>>random.Intn(10)
		got, code := impl.ElectricPower(p, flow, efficiency)
		checkCode(t, got, code, quotientOf(1000*efficiency, exactHead(p, flow), flow), impl.OK, "ElectricPower", p, flow, efficiency)
	}
}

func TestLeastSpeed(t *testing.T) {
	closePump := pumpOf("a", [2]int64{0, 1000}, [2]int64{3, 1000}, [2]int64{4, 1000})
	cases := []struct {
		p                               impl.Pump
		static, coefficient, flow, want int64
		code                            int64
	}{
		{mainPump(), 20000, 0, 0, 448, impl.OK},
		// Just enough at the least, the given and the greatest speed, and just not.
		{mainPump(), 0, 0, 0, 100, impl.OK}, {mainPump(), 1000, 0, 0, 100, impl.OK}, {mainPump(), 1001, 0, 0, 101, impl.OK},
		{mainPump(), 100000, 0, 0, 1000, impl.OK}, {mainPump(), 144000, 0, 0, 1200, impl.OK}, {mainPump(), 144001, 0, 0, 0, impl.ErrNotFound},
		{mainPump(), 0, 0, impl.MaxFlow, 100, impl.OK}, {mainPump(), 1, 0, impl.MaxFlow, 0, impl.ErrNotFound},
		{mainPump(), 1, 0, 12000, 0, impl.ErrNotFound}, {mainPump(), 1, 0, 11999, 1200, impl.OK},
		// A pump with a head at its last flow needs the speed at which this is reached.
		{steadyPump("a", 5000, 1000), 1, 0, 1000, 1000, impl.OK}, {steadyPump("a", 5000, 1000), 1, 0, 1001, 1001, impl.OK},
		{steadyPump("a", 5000, 1000), 1, 0, 1200, 1200, impl.OK}, {steadyPump("a", 5000, 1000), 1, 0, 1201, 0, impl.ErrNotFound},
		// Speeds with which there is no pump do not count: below half of it, in between, and above it.
		{steadyPump("a", 9, 1), 0, 0, 0, 500, impl.OK}, {closePump, 249, 0, 0, 499, impl.OK}, {closePump, 250, 0, 0, 625, impl.OK},
		{closePump, 150, 0, 2, 387, impl.OK}, {closePump, 1, 0, 3, 625, impl.OK}, {steadyPump("a", impl.MaxHead, 9), impl.MaxHead, 0, 0, 1000, impl.OK},
		{steadyPump("a", impl.MaxHead, 9), impl.MaxHead, coefficientLimit, 9, 0, impl.ErrNotFound},
		{pumpOf("a", [2]int64{0, 9}, [2]int64{1, 9}, [2]int64{impl.MaxFlow, 9}), 0, 0, 0, 500, impl.OK},
		{pumpOf("a", [2]int64{0, 9}, [2]int64{1, 9}, [2]int64{impl.MaxFlow, 9}), 10, 0, 0, 0, impl.ErrNotFound},
	}
	for _, c := range cases {
		got, code := impl.LeastSpeed(c.p, c.static, c.coefficient, c.flow)
		checkCode(t, got, code, c.want, c.code, "LeastSpeed", c.p, c.static, c.coefficient, c.flow)
	}
}

func TestLeastSpeedsAreEnough(t *testing.T) {
	random := rand.New(rand.NewSource(87))
	found := 0
	for range 60 {
		p := randomPump(random, "any")
		// Small pumps have points that coincide at some of the speeds.
		if random.Intn(2) == 0 {
			p = pumpOf("tiny", [2]int64{0, 3000}, [2]int64{1 + random.Int63n(3), 2000}, [2]int64{4 + random.Int63n(3), 1000})
		}
		_, coefficient := randomSystem(random)
		static, flow := random.Int63n(p.Curve[0][1]+2), random.Int63n(p.Curve[len(p.Curve)-1][0]+2)
		static, flow = static>>random.Intn(6), min(flow>>random.Intn(10), impl.MaxFlow)
		want, wantCode := int64(0), int64(impl.ErrNotFound)
		for speed := int64(leastSpeed); speed <= greatestSpeed; speed++ {
			slow := exactSpeed(p, speed)
			if impl.ValidPump(slow) && isPossible(slow, static, coefficient, flow) {
				want, wantCode = speed, impl.OK
				found++
				break
			}
		}
		got, code := impl.LeastSpeed(p, static, coefficient, flow)
		checkCode(t, got, code, want, wantCode, "LeastSpeed", p, static, coefficient, flow)
	}
	if found < 10 {
		t.Errorf("only %d pumps are fast enough", found)
	}
}

func TestPumpsAreReadBack(t *testing.T) {
	texts := []string{
		"main 0:100000 10000:0", "a 0:0 1:0", "abcdefghij 0:2000000 100000:2000000", "p7 0:9 1:9 2:8 100000:8",
		"b 0:8 1:7 2:6 3:5 4:4 5:3 6:2 7:1",
	}
	for _, s := range texts {
		p, ok := impl.ReadPump(s)
		if !ok || !impl.ValidPump(p) || impl.PumpText(p) != s {
			t.Errorf("ReadPump(%q) = %v, %v", s, p, ok)
		}
	}
	if got := impl.PumpText(mainPump()); got != texts[0] {
		t.Errorf("PumpText(%v) = %q", mainPump(), got)
	}
	random := rand.New(rand.NewSource(88))
	pumps := validPumps()
	for range 500 {
		pumps = append(pumps, randomPump(random, "any"))
	}
	for _, p := range pumps {
		if got, ok := impl.ReadPump(impl.PumpText(p)); !impl.SamePump(got, p) || !ok {
			t.Errorf("ReadPump(%q) = %v, %v", impl.PumpText(p), got, ok)
		}
	}
	for _, p := range invalidPumps() {
		if got := impl.PumpText(p); got != "" {
			t.Errorf("PumpText(%v) = %q", p, got)
		}
	}
}

func TestReadPumpRefuses(t *testing.T) {
	texts := append(extremeTexts(),
		"main", "main ", " main", "main -", "main 0", "main 0:5", "main 0:5 ", "main 0:5 1", "main 0:5 1:", "main 0:5 :5", "main : :",
		"0:5 1:5", " 0:5 1:5", " main 0:5 1:5", "main  0:5 1:5", "main 0:5  1:5", "main 0:5 1:5 ", "main\t0:5 1:5", "main 0:5\t1:5",
		"main 0:5 1:5\n", "main 0:5,1:5", "main 0:5:1 1:5", "main 0,5 1,5", "main 0: 5 1:5", "main 0 :5 1:5", "main 00:5 1:5",
		"main 0:05 1:5", "main 0:5 +1:5", "main -0:5 1:5", "main 0:5 1:-0", "main 0:5 1:x", "main x 0:5 1:5",
		"Main 0:5 1:5", "7main 0:5 1:5", "abcdefghijk 0:5 1:5", "ma-in 0:5 1:5", "main\x00 0:5 1:5",
		"main 1:5 2:5", "main 0:5 0:5", "main 0:5 2:5 1:5", "main 0:5 1:6", "main 0:5 1:-1", "main -1:5 1:5", "main 0:2000001 1:5",
		"main 0:5 100001:5", "main 0:5 1:5 2:5 3:5 4:5 5:5 6:5 7:5 8:5", "main 0:5 1:5 2:5 3:5 4:5 5:5 6:5 7:5 8:x", "main 0:5 1:5000000000000000000",
		"main "+strings.Repeat("0:5 ", 1000)+"1:5", strings.Repeat("a", 100000)+" 0:5 1:5")
	for _, s := range texts {
		if p, ok := impl.ReadPump(s); p.Id != "" || p.Curve != nil || ok {
			t.Errorf("ReadPump(%q) = %v, %v", s, p, ok)
		}
	}
}

func TestPumpFunctionsRefuse(t *testing.T) {
	type numbers struct{ static, coefficient, flow, speed, efficiency int64 }
	good := numbers{10, 10, 10, 1000, 1000}
	calls := []struct {
		name, takes string
		of          func(p impl.Pump, n numbers) outcome
	}{
		{"HeadAt", "flow", func(p impl.Pump, n numbers) outcome {
			head, code := impl.HeadAt(p, n.flow)
			return outcome{[]int64{head}, code}
		}},
		{"WorkingFlow", "static coefficient", func(p impl.Pump, n numbers) outcome {
			flow, head, code := impl.WorkingFlow(p, n.static, n.coefficient)
			return outcome{[]int64{flow, head}, code}
		}},
		{"SlowPump", "speed", func(p impl.Pump, n numbers) outcome {
			slow, code := impl.SlowPump(p, n.speed)
			return outcome{append(slices.Concat(slow.Curve...), int64(len(slow.Id))), code}
		}},
		{"ElectricPower", "flow efficiency", func(p impl.Pump, n numbers) outcome {
			power, code := impl.ElectricPower(p, n.flow, n.efficiency)
			return outcome{[]int64{power}, code}
		}},
		{"LeastSpeed", "static coefficient flow", func(p impl.Pump, n numbers) outcome {
			speed, code := impl.LeastSpeed(p, n.static, n.coefficient, n.flow)
			return outcome{[]int64{speed}, code}
		}},
	}
	wrong := map[string][]numbers{}
	add := func(name string, low, high int64, set func(*numbers, int64)) {
		for _, number := range beyond(low, high) {
			n := good
			set(&n, number)
			wrong[name] = append(wrong[name], n)
		}
	}
	add("static", 0, impl.MaxHead, func(n *numbers, number int64) { n.static = number })
	add("coefficient", 0, coefficientLimit, func(n *numbers, number int64) { n.coefficient = number })
	add("flow", 0, impl.MaxFlow, func(n *numbers, number int64) { n.flow = number })
	add("speed", leastSpeed, greatestSpeed, func(n *numbers, number int64) { n.speed = number })
	add("efficiency", 1, 1000, func(n *numbers, number int64) { n.efficiency = number })
	for _, c := range calls {
		if got := c.of(mainPump(), good); got.code != impl.OK {
			t.Errorf("%s of good numbers gives %d", c.name, got.code)
		}
		for name, list := range wrong {
			for _, n := range list {
				if !strings.Contains(c.takes, name) {
					continue
				}
				for _, p := range validPumps() {
					checkFailed(t, c.of(p, n), impl.ErrRange, c.name, p, n)
				}
				for _, p := range someInvalidPumps() {
					checkFailed(t, c.of(p, n), impl.ErrInvalid, c.name, p, n)
				}
			}
		}
		for _, p := range invalidPumps() {
			checkFailed(t, c.of(p, good), impl.ErrInvalid, c.name, p, good)
		}
	}
}

// The other tests take these limits from the program, so they are written out.
func TestConstantsOfPumps(t *testing.T) {
	got := []int64{impl.MaxPoints, impl.MaxPumps, impl.MaxHead}
	if want := []int64{8, 8, 2000000}; !slices.Equal(got, want) {
		t.Errorf("the constants are %d, want %d", got, want)
	}
}
