package tests

import (
	"math/rand"
	"slices"
	"testing"

	"loop.example/g01011/impl"
)

// What is needed for the loads of substations: flows, exchangers and temperatures, and how warm all water goes back then.

// checkEnough checks that got is the least number from low to high with which a power is at least a load, or that there
// is none.
func checkEnough(t *testing.T, got, code, low, high, load int64, power func(int64) int64, what string, arguments ...any) {
	t.Helper()
	if power(high) < load {
		checkCode(t, got, code, 0, impl.ErrState, what, arguments...)
		return
	}
	if code != impl.OK || got < low || got > high || power(got) < load {
		t.Errorf("%s%v = %d, %d, which is not enough", what, arguments, got, code)
	}
	// Numbers just below it, halfway and farther down are not enough.
	for less := got - 1; less >= low; less -= 1 + (got - less) {
		if power(less) >= load {
			t.Errorf("%s%v = %d, %d, but %d is enough", what, arguments, got, code, less)
		}
	}
}

func flowPower(x impl.Substation, primary int64) func(int64) int64 {
	return func(flow int64) int64 { return exactPower(x, primary, flow) }
}

func transferPower(x impl.Substation, primary int64) func(int64) int64 {
	return func(transfer int64) int64 {
		x.Transfer = transfer
		return exactPower(x, primary, impl.MaxFlow)
	}
}

func primaryPower(x impl.Substation, flow int64) func(int64) int64 {
	return func(primary int64) int64 { return exactPower(x, primary, flow) }
}

// randomLoad is often just enough for some power, or just not.
func randomLoad(random *rand.Rand, power int64) int64 {
	switch random.Intn(5) {
	case 0:
		return 0
	case 1:
		return min(random.Int63n(2*power+2), impl.MaxPressure)
	default:
		return max(0, power+random.Int63n(3)-1)
	}
}

func TestPrimaryFlow(t *testing.T) {
	const most = impl.MaxPressure
	cases := []struct{ primary, load, want, code int64 }{
		{9000, 35730, 999, impl.OK}, {9000, 35731, 1001, impl.OK}, {9000, 209, 1, impl.OK}, {9000, 210, 2, impl.OK}, {9000, 1, 1, impl.OK},
		// The most that all water can bring, and more than that.
		{9000, 39950, 86760, impl.OK}, {9000, 39951, 0, impl.ErrState}, {9000, most, 0, impl.ErrState}, {impl.MaxWater, most, 0, impl.ErrState},
		// No load needs no flow, even of water that is too cold.
		{9000, 0, 0, impl.OK}, {4000, 0, 0, impl.OK}, {3999, 0, 0, impl.OK}, {0, 0, 0, impl.OK}, {impl.MaxWater, 0, 0, impl.OK},
		{3999, 1, 0, impl.ErrState}, {4000, 1, 0, impl.ErrState}, {5000, 1, 0, impl.ErrState}, {0, most, 0, impl.ErrState},
		// Colder than Supply, but warm enough.
		{5001, 1, 12, impl.OK}, {5001, 10, 227, impl.OK}, {5001, 11, 0, impl.ErrState}, {5500, 4470, 998, impl.OK},
	}
	for _, c := range cases {
		got, code := impl.PrimaryFlow(mainSubstation(), c.primary, c.load)
		checkCode(t, got, code, c.want, c.code, "PrimaryFlow", c.primary, c.load)
	}
	random := rand.New(rand.NewSource(135))
	for range 600 {
		x := randomSubstation(random, 1+int64(impl.MaxWater)>>random.Intn(14))
		primary := nearTemperature(random, x)
		load := randomLoad(random, exactPower(x, primary, randomHeatFlow(random)))
		got, code := impl.PrimaryFlow(x, primary, load)
		checkEnough(t, got, code, 0, impl.MaxFlow, load, flowPower(x, primary), "PrimaryFlow", x, primary, load)
	}
}

func TestLeastTransfer(t *testing.T) {
	const most = impl.MaxPressure
	cases := []struct{ primary, load, want, code int64 }{
		{9000, 39950, 1000, impl.OK}, {9000, 39951, 1001, impl.OK}, {9000, 39910, 999, impl.OK}, {9000, 40, 1, impl.OK}, {9000, 41, 2, impl.OK},
		// With the greatest exchanger, what all water gives off is the limit.
		{9000, 2930000, 80274, impl.OK}, {9000, 3264000, 90416, impl.OK}, {9000, 3573000, impl.MaxTransfer, impl.OK}, {9000, 3573001, 0, impl.ErrState},
		{9000, most, 0, impl.ErrState}, {impl.MaxWater, most, 0, impl.ErrState},
		{9000, 0, 1, impl.OK}, {3999, 0, 1, impl.OK}, {0, 0, 1, impl.OK}, {5000, 0, 1, impl.OK},
		{3999, 1, 0, impl.ErrState}, {4000, 1, 0, impl.ErrState}, {5000, 1, 0, impl.ErrState}, {5001, 1, 50, impl.OK}, {5001, 1000, 99950, impl.OK}, {5001, 1001, 0, impl.ErrState},
	}
	for _, c := range cases {
		// What the Transfer of the substation is makes no difference.
		for _, transfer := range []int64{1, 1000, impl.MaxTransfer} {
			got, code := impl.LeastTransfer(substationOf(transfer, 6000, 4000), c.primary, c.load)
			checkCode(t, got, code, c.want, c.code, "LeastTransfer", transfer, c.primary, c.load)
		}
	}
	random := rand.New(rand.NewSource(136))
	for range 600 {
		x := randomSubstation(random, 1+int64(impl.MaxWater)>>random.Intn(14))
		primary := nearTemperature(random, x)
		load := randomLoad(random, exactPower(x, primary, impl.MaxFlow))
		got, code := impl.LeastTransfer(x, primary, load)
		checkEnough(t, got, code, 1, impl.MaxTransfer, load, transferPower(x, primary), "LeastTransfer", x, primary, load)
	}
}

func TestLeastPrimary(t *testing.T) {
	const most = impl.MaxPressure
	cases := []struct{ load, flow, want, code int64 }{
		{35730, 1000, 9000, impl.OK}, {35731, 1000, 9001, impl.OK}, {39950, impl.MaxFlow, 9000, impl.OK}, {39951, impl.MaxFlow, 9001, impl.OK},
		{0, 0, 0, impl.OK}, {0, impl.MaxFlow, 0, impl.OK}, {1, 0, 0, impl.ErrState}, {most, 0, 0, impl.ErrState}, {most, impl.MaxFlow, 0, impl.ErrState},
		{10, 1000, 5001, impl.OK}, {1, impl.MaxFlow, 5001, impl.OK}, {209, 1, 8981, impl.OK}, {586, 1, 17988, impl.OK}, {587, 1, 0, impl.ErrState},
		{129840, impl.MaxFlow, impl.MaxWater, impl.OK}, {129841, impl.MaxFlow, 0, impl.ErrState},
	}
	for _, c := range cases {
		got, code := impl.LeastPrimary(mainSubstation(), c.load, c.flow)
		checkCode(t, got, code, c.want, c.code, "LeastPrimary", c.load, c.flow)
	}
	random := rand.New(rand.NewSource(137))
	for range 400 {
		x, flow := randomSubstation(random, 1+int64(impl.MaxWater)>>random.Intn(14)), randomHeatFlow(random)
		load := randomLoad(random, exactPower(x, nearTemperature(random, x), flow))
		got, code := impl.LeastPrimary(x, load, flow)
		checkEnough(t, got, code, impl.MinWater, impl.MaxWater, load, primaryPower(x, flow), "LeastPrimary", x, load, flow)
	}
}

// coldAndHot returns two substations, the second one of which takes water back that is warmer than 9000.
func coldAndHot() []impl.Substation {
	list := substationsOf(2, mainSubstation())
	list[1].Return, list[1].Supply = 9500, 9600
	return list
}

func TestWeakSubstations(t *testing.T) {
	most := slices.Repeat([]int64{impl.MaxPressure}, impl.MaxSubstations)
	cases := []struct {
		list    []impl.Substation
		primary int64
		loads   []int64
		want    []int64
	}{
		{substationsOf(3, mainSubstation()), 9000, []int64{39951, 39950, 39951}, []int64{0, 2}},
		{substationsOf(3, mainSubstation()), 9000, []int64{0, 39950, 1}, nil}, {substationsOf(3, mainSubstation()), 9000, []int64{0, 0, 0}, nil},
		{substationsOf(3, mainSubstation()), 9001, []int64{39951, 39950, 39960}, nil}, {substationsOf(3, mainSubstation()), 8999, []int64{1, 39950, 39951}, []int64{1, 2}},
		{substationsOf(3, mainSubstation()), 0, []int64{0, 1, 0}, []int64{1}}, {substationsOf(3, mainSubstation()), 0, []int64{0, 0, 0}, nil},
		{coldAndHot(), 9000, []int64{39950, 0}, nil}, {coldAndHot(), 9000, []int64{39951, 1}, []int64{0, 1}}, {coldAndHot(), 9000, []int64{39950, 1}, []int64{1}},
		{substationsOf(impl.MaxSubstations, mainSubstation()), impl.MaxWater, most, first(impl.MaxSubstations)},
		{substationsOf(impl.MaxSubstations, mainSubstation()), impl.MaxWater, make([]int64, impl.MaxSubstations), nil},
		{nil, 9000, nil, nil}, {nil, 0, []int64{}, nil},
	}
	for _, c := range cases {
		got, code := impl.WeakSubstations(c.list, c.primary, c.loads)
		checkIndices(t, got, code, c.want, "WeakSubstations", c.list, c.primary, c.loads)
	}
}

func TestReturnMix(t *testing.T) {
	three := substationsOf(3, mainSubstation())
	cases := []struct {
		list    []impl.Substation
		primary int64
		loads   []int64
		want    int64
		code    int64
	}{
		{three[:1], 9000, []int64{35730}, 8145, impl.OK}, {three, 9000, []int64{35730, 35730, 35730}, 8145, impl.OK},
		// Flows of 0 do not count, whatever the primary water is for them.
		{three, 9000, []int64{0, 35730, 0}, 8145, impl.OK}, {coldAndHot(), 9000, []int64{35730, 0}, 8145, impl.OK},
		// A flow of 1 that goes back with 4019, and 999 with 8145: 8140.9.
		{three, 9000, []int64{209, 35730, 0}, 8141, impl.OK}, {three, 9000, []int64{0, 35730, 209}, 8141, impl.OK},
		{three, 9000, []int64{0, 0, 0}, 0, impl.ErrState}, {three, 0, []int64{0, 0, 0}, 0, impl.ErrState}, {nil, 9000, nil, 0, impl.ErrState},
		// One of them is too weak, while others are served.
		{three, 9000, []int64{39951, 39950, 39950}, 0, impl.ErrState}, {three, 9000, []int64{1, 1, 39951}, 0, impl.ErrState},
		{coldAndHot(), 9000, []int64{35730, 1}, 0, impl.ErrState}, {three, 3999, []int64{0, 0, 1}, 0, impl.ErrState},
		{three, 9000, []int64{impl.MaxPressure, 1, 1}, 0, impl.ErrState},
	}
	for _, c := range cases {
		got, code := impl.ReturnMix(c.list, c.primary, c.loads)
		checkCode(t, got, code, c.want, c.code, "ReturnMix", c.list, c.primary, c.loads)
	}
}

// randomServed returns substations, primary water and loads, most of which can be served.
func randomServed(random *rand.Rand) ([]impl.Substation, int64, []int64) {
	list := substationsOf(random.Intn(impl.MaxSubstations+1), mainSubstation())
	primary, loads := random.Int63n(impl.MaxWater+1), make([]int64, len(list))
	for i := range list {
		x := randomSubstation(random, impl.MaxWater)
		x.Id = list[i].Id
		// Some substations have to be left without a load, as the primary water is too cold.
		list[i], loads[i] = x, exactPower(x, primary, random.Int63n(200))
		if random.Intn(60) == 0 {
			loads[i] = impl.MaxPressure
		}
	}
	return list, primary, loads
}

func TestSubstationsTogether(t *testing.T) {
	random := rand.New(rand.NewSource(138))
	served := 0
	for range 300 {
		list, primary, loads := randomServed(random)
		var weak []int64
		heat, water := int64(0), int64(0)
		for i, x := range list {
			if exactPower(x, primary, impl.MaxFlow) < loads[i] {
				weak = append(weak, int64(i))
				continue
			}
			flow, _ := impl.PrimaryFlow(x, primary, loads[i])
			_, back := exactExchange(x, primary, flow)
			heat += flow * back
			water += flow
		}
		got, code := impl.WeakSubstations(list, primary, loads)
		checkIndices(t, got, code, weak, "WeakSubstations", list, primary, loads)
		mix, code := impl.ReturnMix(list, primary, loads)
		if len(weak) > 0 || water == 0 {
			checkCode(t, mix, code, 0, impl.ErrState, "ReturnMix", list, primary, loads)
			continue
		}
		served++
		checkCode(t, mix, code, halfAway(heat, water), impl.OK, "ReturnMix", list, primary, loads)
	}
	if served < 100 || served > 290 {
		t.Errorf("%d times all substations are served", served)
	}
}
