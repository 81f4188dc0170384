package tests

import (
	"math/rand"
	"testing"

	"loop.example/g01011/impl"
)

// Promise 13: more water never gives less power, and water goes back between its limits.

// halfAway divides by a positive number, with halves away from 0.
func halfAway(a, b int64) int64 {
	if a < 0 {
		return -halfAway(-a, b)
	}
	return (2*a + b) / (2 * b)
}

func exactMean(x impl.Substation, primary, back int64) int64 {
	return halfAway(primary-x.Supply+back-x.Return, 2)
}

// exactExchange looks at all temperatures with which water may go back, and returns the power of a flow, and the
// greatest of these temperatures with which it is so.
func exactExchange(x impl.Substation, primary, flow int64) (power, back int64) {
	most, back := int64(-1), primary
	for try := x.Return; try <= primary; try++ {
		given := halfAway(4186*flow*(primary-try), 100000)
		carried := halfAway(x.Transfer*exactMean(x, primary, try), 100)
		if lesser := min(given, carried); lesser >= max(most, 0) {
			most, back = lesser, try
		}
	}
	return max(most, 0), back
}

// exactPower is the power by the definition.
func exactPower(x impl.Substation, primary, flow int64) int64 {
	power, _ := exactExchange(x, primary, flow)
	return power
}

func randomHeatFlow(random *rand.Rand) int64 {
	return random.Int63n(impl.MaxFlow+1) >> random.Intn(18)
}

// nearTemperature returns a temperature of water that is often near to those of a substation.
func nearTemperature(random *rand.Rand, x impl.Substation) int64 {
	var near int64
	switch random.Intn(6) {
	case 0:
		near = random.Int63n(impl.MaxWater + 1)
	case 1:
		near = x.Return + random.Int63n(5) - 2
	case 2:
		near = (x.Return+x.Supply)/2 + random.Int63n(5) - 2
	case 3:
		near = x.Return + random.Int63n(x.Supply-x.Return+1)
	default:
		near = x.Supply + random.Int63n(4000)>>random.Intn(12)
	}
	return max(impl.MinWater, min(near, impl.MaxWater))
}

func TestMeanDifference(t *testing.T) {
	cases := []struct{ supply, back, primary, goesBack, want int64 }{
		{6000, 4000, 9000, 5000, 2000}, {6000, 4000, 9000, 4000, 1500}, {6000, 4000, 9000, 9000, 4000}, {6000, 4000, 9000, 0, -500},
		// It may be 0 and less, also with water that is colder than the house.
		{6000, 4000, 5000, 5000, 0}, {6000, 4000, 7000, 3000, 0}, {6000, 4000, 4000, 4000, -1000}, {6000, 4000, 0, 0, -5000},
		{6000, 4000, 6000, 4000, 0}, {6000, 4000, 6000, 3000, -500},
		// Halves are rounded away from 0 in both directions.
		{6000, 4000, 9000, 5001, 2001}, {6000, 4000, 9000, 4999, 2000}, {6000, 4000, 5001, 5000, 1}, {6000, 4000, 5000, 4999, -1}, {6000, 4000, 5000, 4997, -2},
		{1, 0, 0, 0, -1}, {1, 0, 1, 0, 0}, {1, 0, 1, 1, 1}, {1, 0, impl.MaxWater, impl.MaxWater, impl.MaxWater},
		{impl.MaxWater, impl.MaxWater - 1, 0, 0, -impl.MaxWater}, {impl.MaxWater, impl.MinWater, impl.MaxWater, impl.MinWater, 0},
	}
	for _, c := range cases {
		got, code := impl.MeanDifference(substationOf(1000, c.supply, c.back), c.primary, c.goesBack)
		checkCode(t, got, code, c.want, impl.OK, "MeanDifference", c.supply, c.back, c.primary, c.goesBack)
	}
	random := rand.New(rand.NewSource(131))
	for range 3000 {
		x := randomSubstation(random, impl.MaxWater)
		primary := random.Int63n(impl.MaxWater + 1)
		back := random.Int63n(primary + 1)
		got, code := impl.MeanDifference(x, primary, back)
		checkCode(t, got, code, exactMean(x, primary, back), impl.OK, "MeanDifference", x, primary, back)
	}
}

// checkExchange compares the power of a flow, and how warm it goes back, with what they should be.
func checkExchange(t *testing.T, x impl.Substation, primary, flow, power, back int64) {
	t.Helper()
	got, code := impl.PowerAt(x, primary, flow)
	checkCode(t, got, code, power, impl.OK, "PowerAt", x, primary, flow)
	got, code = impl.ReturnAt(x, primary, flow)
	if primary < x.Return {
		checkCode(t, got, code, 0, impl.ErrState, "ReturnAt", x, primary, flow)
		return
	}
	checkCode(t, got, code, back, impl.OK, "ReturnAt", x, primary, flow)
}

func TestPowerAtAndReturnAt(t *testing.T) {
	const most = impl.MaxFlow
	cases := []struct{ transfer, primary, flow, power, back int64 }{
		{1000, 9000, 1000, 35730, 8146}, {1000, 9000, most, 39950, 8990},
		// Without a flow there is no power, so the water goes back as it comes.
		{1000, 9000, 0, 0, 9000}, {1000, 4000, 0, 0, 4000}, {1000, 4500, 0, 0, 4500},
		// A little flow gives off all that it can, and several temperatures are the same then.
		{1000, 9000, 1, 209, 4019}, {1000, 9000, 10, 2093, 4001}, {100000, 9000, 100, 20930, 4000},
		// Colder than Return, equal to it, and up to where the mean difference begins to be positive.
		{1000, 3999, 1000, 0, 0}, {1000, 0, most, 0, 0}, {1000, 4000, 1000, 0, 4000}, {1000, 4001, most, 0, 4001}, {1000, 4999, 1000, 0, 4999},
		{1000, 5000, 1000, 0, 5000}, {1000, 5001, 1000, 10, 5000}, {1000, 5001, 1, 0, 5001}, {1000, 5001, 12, 1, 5000},
		// Colder than Supply, but warm enough.
		{1000, 5500, 1000, 4470, 5393}, {1000, 5999, 1000, 8920, 5785}, {1000, 6000, 1000, 8930, 5786},
		// An exchanger that carries little: 0.4, 0.5 and 1 watts.
		{1, 5040, most, 0, 5040}, {1, 5050, most, 1, 5049}, {1, 5100, 1, 1, 5088}, {1, 9000, most, 40, 8999}, {1, 9000, 1, 36, 8151},
		{100000, impl.MaxWater, most, 11613000, 15225},
	}
	for _, c := range cases {
		x := substationOf(c.transfer, 6000, 4000)
		power, back := exactExchange(x, c.primary, c.flow)
		if power != c.power || c.primary >= x.Return && back != c.back {
			t.Errorf("the definition gives %d, %d for %+v", power, back, c)
		}
		checkExchange(t, x, c.primary, c.flow, c.power, c.back)
	}
	// The hottest and the coldest house.
	checkExchange(t, substationOf(1000, impl.MaxWater, impl.MaxWater-1), impl.MaxWater, most, 0, impl.MaxWater)
	checkExchange(t, substationOf(1000, impl.MaxWater, impl.MaxWater-2), impl.MaxWater, most, 10, impl.MaxWater-1)
	checkExchange(t, substationOf(1000, 1, 0), impl.MinWater, most, 0, impl.MinWater)
	checkExchange(t, substationOf(1000, 1, 0), 1, most, 0, 1)
	checkExchange(t, substationOf(1000, 1, 0), 2, most, 10, 1)
}

func TestPowersAreExact(t *testing.T) {
	random := rand.New(rand.NewSource(132))
	positive := 0
	for range 4000 {
		x := randomSubstation(random, 1+int64(impl.MaxWater)>>random.Intn(14))
		primary, flow := nearTemperature(random, x), randomHeatFlow(random)
		power, back := exactExchange(x, primary, flow)
		checkExchange(t, x, primary, flow, power, back)
		if power > 0 {
			positive++
		}
	}
	if positive < 1000 || positive > 3500 {
		t.Errorf("%d of the powers are positive", positive)
	}
}

func TestMoreWaterNeverGivesLessPower(t *testing.T) {
	random := rand.New(rand.NewSource(133))
	for range 400 {
		x := randomSubstation(random, 1+int64(impl.MaxWater)>>random.Intn(14))
		primary := nearTemperature(random, x)
		before, flow := int64(0), int64(0)
		for flow <= impl.MaxFlow {
			power, code := impl.PowerAt(x, primary, flow)
			if power < before || code != impl.OK {
				t.Errorf("PowerAt(%+v, %d, %d) = %d, %d, and less water gives %d", x, primary, flow, power, code, before)
			}
			before = power
			// Flows that are 1 more, a little more and much more.
			flow += 1 + (random.Int63n(flow+1)/2)>>random.Intn(8)
		}
	}
}

func TestWaterGoesBackBetweenItsLimits(t *testing.T) {
	random := rand.New(rand.NewSource(134))
	for range 5000 {
		x := randomSubstation(random, 1+int64(impl.MaxWater)>>random.Intn(14))
		primary, flow := nearTemperature(random, x), randomHeatFlow(random)
		back, code := impl.ReturnAt(x, primary, flow)
		power, _ := impl.PowerAt(x, primary, flow)
		if primary < x.Return {
			checkCode(t, back, code, 0, impl.ErrState, "ReturnAt", x, primary, flow)
			continue
		}
		if code != impl.OK || back < x.Return || back > primary || power == 0 && back != primary {
			t.Errorf("ReturnAt(%+v, %d, %d) = %d, %d, with the power %d", x, primary, flow, back, code, power)
		}
		// What is given off and what can be carried are enough for the power there, and just above one of them is not.
		if power == 0 {
			continue
		}
		given, _ := impl.HeatPower(flow, primary, back)
		mean, _ := impl.MeanDifference(x, primary, back)
		less, _ := impl.HeatPower(flow, primary, min(back+1, primary))
		if given < power || halfAway(x.Transfer*mean, 100) < power || less >= power {
			t.Errorf("ReturnAt(%+v, %d, %d) = %d, where %d is given off and the power is %d", x, primary, flow, back, given, power)
		}
	}
}
