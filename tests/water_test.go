package tests

import (
	"math"
	"math/big"
	"math/rand"
	"slices"
	"testing"

	"loop.example/g01011/impl"
)

// Promise 3: warmer water is lighter, more pressure makes it boil later, and mixed water lies between.

// place is a number of a table, and what belongs to it.
type place struct{ at, value int64 }

func densityPlaces() []place {
	return []place{
		{0, 99984}, {2000, 99820}, {4000, 99220}, {6000, 98320}, {8000, 97180},
		{10000, 95835}, {12000, 94310}, {14000, 92610}, {16000, 90745}, {18000, 88700},
	}
}

func boilingPlaces() []place {
	return []place{
		{1000, 700}, {2000, 1750}, {10000, 4580}, {50000, 8135}, {101325, 9961},
		{200000, 12023}, {400000, 14361}, {600000, 15883}, {1000000, 17988}, {1200000, 18796},
	}
}

// between goes through the places in order and rounds the line from the left one.
func between(places []place, at int64) int64 {
	for i, right := range places[1:] {
		if left := places[i]; at <= right.at {
			rise := big.NewInt((right.value - left.value) * (at - left.at))
			return left.value + exactQuotient(rise, big.NewInt(right.at-left.at))
		}
	}
	return 0
}

// quotientOf divides a product of numbers.
func quotientOf(divisor int64, factors ...int64) int64 {
	product := big.NewInt(1)
	for _, f := range factors {
		product.Mul(product, big.NewInt(f))
	}
	return exactQuotient(product, big.NewInt(divisor))
}

// checkCode compares a result and its code with what they should be.
func checkCode(t *testing.T, got, code, want, wantCode int64, what string, arguments ...any) {
	t.Helper()
	if got != want || code != wantCode {
		t.Errorf("%s%v = %d, %d, want %d, %d", what, arguments, got, code, want, wantCode)
	}
}

// beyond returns numbers that are just and far out of limits.
func beyond(low, high int64) []int64 {
	return []int64{low - 1, high + 1, -impl.MaxValue, impl.MaxValue, math.MinInt64, math.MaxInt64}
}

func TestWaterDensity(t *testing.T) {
	for _, p := range densityPlaces() {
		got, code := impl.WaterDensity(p.at)
		checkCode(t, got, code, p.value, impl.OK, "WaterDensity", p.at)
	}
	before := int64(math.MaxInt64)
	for temperature := int64(impl.MinWater); temperature <= impl.MaxWater; temperature++ {
		got, code := impl.WaterDensity(temperature)
		checkCode(t, got, code, between(densityPlaces(), temperature), impl.OK, "WaterDensity", temperature)
		if got > before {
			t.Errorf("water is heavier at %d", temperature)
		}
		before = got
	}
	for _, temperature := range beyond(impl.MinWater, impl.MaxWater) {
		got, code := impl.WaterDensity(temperature)
		checkCode(t, got, code, 0, impl.ErrRange, "WaterDensity", temperature)
	}
}

func TestBoilingAt(t *testing.T) {
	for _, p := range boilingPlaces() {
		got, code := impl.BoilingAt(p.at)
		checkCode(t, got, code, p.value, impl.OK, "BoilingAt", p.at)
	}
	before := int64(0)
	for pressure := int64(impl.MinSteam); pressure <= impl.MaxSteam; pressure += 7 {
		got, code := impl.BoilingAt(pressure)
		checkCode(t, got, code, between(boilingPlaces(), pressure), impl.OK, "BoilingAt", pressure)
		if got < before {
			t.Errorf("water boils earlier at %d", pressure)
		}
		before = got
	}
	for _, pressure := range beyond(impl.MinSteam, impl.MaxSteam) {
		got, code := impl.BoilingAt(pressure)
		checkCode(t, got, code, 0, impl.ErrRange, "BoilingAt", pressure)
	}
}

func TestSteamPressureIsTheLeastOne(t *testing.T) {
	for temperature := int64(impl.MinWater); temperature <= impl.MaxWater; temperature++ {
		pressure, code := impl.SteamPressure(temperature)
		boiling, boilingCode := impl.BoilingAt(pressure)
		if code != impl.OK || boilingCode != impl.OK || boiling < temperature {
			t.Errorf("SteamPressure(%d) = %d, %d, where water boils at %d", temperature, pressure, code, boiling)
		}
		if less, lessCode := impl.BoilingAt(pressure - 1); lessCode == impl.OK && less >= temperature {
			t.Errorf("SteamPressure(%d) = %d, but less is enough", temperature, pressure)
		}
	}
	cases := []place{{0, 1000}, {700, 1000}, {701, 1001}, {1750, 2000}, {9961, 101325}, {17988, 1000000}}
	for _, c := range cases {
		// Rounding lets a pressure a little below that of the table be enough.
		got, code := impl.SteamPressure(c.at)
		if code != impl.OK || got > c.value || got < c.value-300 {
			t.Errorf("SteamPressure(%d) = %d, %d", c.at, got, code)
		}
	}
	for _, temperature := range beyond(impl.MinWater, impl.MaxWater) {
		got, code := impl.SteamPressure(temperature)
		checkCode(t, got, code, 0, impl.ErrRange, "SteamPressure", temperature)
	}
}

func TestMarginTo(t *testing.T) {
	cases := []struct{ pressure, temperature, want int64 }{
		{101325, 9000, 961}, {101325, 9961, 0}, {101325, 9962, -1}, {101325, 18000, -8039},
		{1000, 0, 700}, {1000, 18000, -17300}, {1200000, 0, 18796}, {1200000, 18000, 796},
	}
	for _, c := range cases {
		got, code := impl.MarginTo(c.pressure, c.temperature)
		checkCode(t, got, code, c.want, impl.OK, "MarginTo", c.pressure, c.temperature)
	}
	for _, pressure := range beyond(impl.MinSteam, impl.MaxSteam) {
		got, code := impl.MarginTo(pressure, 5000)
		checkCode(t, got, code, 0, impl.ErrRange, "MarginTo", pressure, 5000)
	}
	for _, temperature := range beyond(impl.MinWater, impl.MaxWater) {
		got, code := impl.MarginTo(101325, temperature)
		checkCode(t, got, code, 0, impl.ErrRange, "MarginTo", 101325, temperature)
	}
}

func TestHeatPower(t *testing.T) {
	cases := []struct{ flow, warm, cold, want int64 }{
		{1000, 8000, 3000, 209300}, {0, 8000, 3000, 0}, {1000, 5000, 5000, 0},
		{1, 12, 0, 1}, {1, 11, 0, 0}, {25, 1, 0, 1}, {125, 100, 0, 523}, {125, 200, 100, 523},
		{100000, 18000, 0, 75348000},
	}
	for _, c := range cases {
		got, code := impl.HeatPower(c.flow, c.warm, c.cold)
		checkCode(t, got, code, c.want, impl.OK, "HeatPower", c.flow, c.warm, c.cold)
	}
	refused := [][3]int64{{1000, 3000, 8000}, {1000, 0, 1}, {0, 17999, 18000}, {-1, 3000, 8000}}
	for _, flow := range beyond(0, impl.MaxFlow) {
		refused = append(refused, [3]int64{flow, 8000, 3000})
	}
	for _, temperature := range beyond(impl.MinWater, impl.MaxWater) {
		refused = append(refused, [3]int64{1000, temperature, 0}, [3]int64{1000, 18000, temperature}, [3]int64{1000, temperature, temperature})
	}
	for _, r := range refused {
		got, code := impl.HeatPower(r[0], r[1], r[2])
		checkCode(t, got, code, 0, impl.ErrRange, "HeatPower", r[0], r[1], r[2])
	}
}

func TestHeatPowerIsExact(t *testing.T) {
	random := rand.New(rand.NewSource(3))
	for range 5000 {
		flow, warm := random.Int63n(impl.MaxFlow+1), random.Int63n(impl.MaxWater+1)
		cold := random.Int63n(warm + 1)
		got, code := impl.HeatPower(flow, warm, cold)
		checkCode(t, got, code, quotientOf(100000, flow, 4186, warm-cold), impl.OK, "HeatPower", flow, warm, cold)
	}
}

func TestFlowForPowerIsTheLeastOne(t *testing.T) {
	random := rand.New(rand.NewSource(4))
	for range 5000 {
		warm := random.Int63n(impl.MaxWater + 1)
		cold, power := random.Int63n(warm+1), random.Int63n(impl.MaxPressure+1)>>random.Intn(27)
		most, _ := impl.HeatPower(impl.MaxFlow, warm, cold)
		flow, code := impl.FlowForPower(power, warm, cold)
		if power > most {
			checkCode(t, flow, code, 0, impl.ErrState, "FlowForPower", power, warm, cold)
			continue
		}
		given, givenCode := impl.HeatPower(flow, warm, cold)
		if code != impl.OK || givenCode != impl.OK || given < power {
			t.Errorf("FlowForPower(%d, %d, %d) = %d, %d, which gives %d", power, warm, cold, flow, code, given)
		}
		if less, lessCode := impl.HeatPower(flow-1, warm, cold); lessCode == impl.OK && less >= power {
			t.Errorf("FlowForPower(%d, %d, %d) = %d, but less is enough", power, warm, cold, flow)
		}
	}
}

func TestFlowForPowerLimits(t *testing.T) {
	cases := []struct{ power, warm, cold, want, code int64 }{
		{209300, 8000, 3000, 1000, impl.OK}, {0, 8000, 3000, 0, impl.OK}, {0, 5000, 5000, 0, impl.OK},
		{1, 5000, 5000, 0, impl.ErrState},
		{75348000, 18000, 0, 100000, impl.OK}, {75348001, 18000, 0, 0, impl.ErrState},
		{impl.MaxPressure, 18000, 0, 0, impl.ErrState}, {impl.MaxPressure, 10, 0, 0, impl.ErrState},
		{4186, 1, 0, 99989, impl.OK}, {4187, 1, 0, 0, impl.ErrState},
	}
	for _, c := range cases {
		got, code := impl.FlowForPower(c.power, c.warm, c.cold)
		checkCode(t, got, code, c.want, c.code, "FlowForPower", c.power, c.warm, c.cold)
	}
	// A number out of its range is told before there being no flow.
	refused := [][3]int64{{1, 3000, 8000}, {impl.MaxPressure + 1, 5000, 5000}, {0, 0, 1}}
	for _, power := range beyond(0, impl.MaxPressure) {
		refused = append(refused, [3]int64{power, 8000, 3000})
	}
	for _, temperature := range beyond(impl.MinWater, impl.MaxWater) {
		refused = append(refused, [3]int64{1, temperature, 0}, [3]int64{1, 18000, temperature}, [3]int64{1, temperature, temperature})
	}
	for _, r := range refused {
		got, code := impl.FlowForPower(r[0], r[1], r[2])
		checkCode(t, got, code, 0, impl.ErrRange, "FlowForPower", r[0], r[1], r[2])
	}
}

func TestMixWater(t *testing.T) {
	cases := []struct {
		flows, temperatures []int64
		want                int64
	}{
		{[]int64{1, 1}, []int64{2000, 4000}, 3000},
		{[]int64{7, 7}, []int64{2000, 4000}, 3000},
		{[]int64{5}, []int64{1234}, 1234},
		{[]int64{1, 1}, []int64{0, 1}, 1},
		{[]int64{2, 1}, []int64{0, 1}, 0},
		{[]int64{0, 3, 0}, []int64{18000, 17, 0}, 17},
		{[]int64{100000, 1}, []int64{0, 18000}, 0},
		{[]int64{1, 99999}, []int64{0, 18000}, 18000},
		{slices.Repeat([]int64{100000}, 64), slices.Repeat([]int64{18000}, 64), 18000},
		{slices.Repeat([]int64{100000}, 64), slices.Repeat([]int64{0, 18000}, 32), 9000},
	}
	for _, c := range cases {
		got, code := impl.MixWater(c.flows, c.temperatures)
		checkCode(t, got, code, c.want, impl.OK, "MixWater", c.flows, c.temperatures)
	}
}

func TestMixWaterRefuses(t *testing.T) {
	many := slices.Repeat([]int64{1}, 65)
	refused := [][2][]int64{
		{nil, nil}, {{}, {}}, {{1}, nil}, {nil, {1}}, {{1, 2}, {1}}, {{1}, {1, 2}},
		{many, many}, {many[:64], many}, {many, many[:64]}, {{0}, {-1}}, {{0, 0}, {5}},
		{make([]int64, 65), make([]int64, 65)},
	}
	for _, flow := range beyond(0, impl.MaxFlow) {
		refused = append(refused, [2][]int64{{flow}, {5}}, [2][]int64{{1, flow}, {5, 5}})
	}
	for _, temperature := range beyond(impl.MinWater, impl.MaxWater) {
		refused = append(refused, [2][]int64{{1, 1}, {5, temperature}}, [2][]int64{{0, 0}, {temperature, 5}})
	}
	for _, r := range refused {
		got, code := impl.MixWater(r[0], r[1])
		checkCode(t, got, code, 0, impl.ErrRange, "MixWater", r[0], r[1])
	}
	for _, n := range []int{1, 2, 64} {
		got, code := impl.MixWater(make([]int64, n), slices.Repeat([]int64{5}, n))
		checkCode(t, got, code, 0, impl.ErrState, "MixWater of flows 0", n)
	}
}

func TestMixedWaterLiesBetween(t *testing.T) {
	random := rand.New(rand.NewSource(5))
	for range 3000 {
		n := 1 + random.Intn(impl.MaxList)
		flows, temperatures, flowing := make([]int64, n), make([]int64, n), []int64{}
		heat, water := big.NewInt(0), int64(0)
		for i := range n {
			flows[i] = max(0, random.Int63n(2*impl.MaxFlow+1)-impl.MaxFlow) >> random.Intn(17)
			temperatures[i] = random.Int63n(impl.MaxWater + 1)
			heat.Add(heat, big.NewInt(flows[i]*temperatures[i]))
			water += flows[i]
			if flows[i] > 0 {
				flowing = append(flowing, temperatures[i])
			}
		}
		got, code := impl.MixWater(flows, temperatures)
		if water == 0 {
			checkCode(t, got, code, 0, impl.ErrState, "MixWater", flows, temperatures)
			continue
		}
		checkCode(t, got, code, exactQuotient(heat, big.NewInt(water)), impl.OK, "MixWater", flows, temperatures)
		if got < slices.Min(flowing) || got > slices.Max(flowing) {
			t.Errorf("MixWater(%d, %d) = %d, which is not between", flows, temperatures, got)
		}
	}
}

func TestExpandedVolume(t *testing.T) {
	cases := []struct{ litres, from, to, want int64 }{
		{1000, 0, 18000, 1127}, {1000, 18000, 0, 887}, {1000, 5000, 5000, 1000}, {0, 0, 18000, 0},
		{1000000000, 0, 18000, 1127215333}, {1000000000, 18000, 0, 887141943}, {1000000000, 0, 0, 1000000000},
	}
	for _, c := range cases {
		got, code := impl.ExpandedVolume(c.litres, c.from, c.to)
		checkCode(t, got, code, c.want, impl.OK, "ExpandedVolume", c.litres, c.from, c.to)
	}
	random := rand.New(rand.NewSource(6))
	for range 3000 {
		litres := random.Int63n(1000000001)
		from, to := random.Int63n(impl.MaxWater+1), random.Int63n(impl.MaxWater+1)
		got, code := impl.ExpandedVolume(litres, from, to)
		want := quotientOf(between(densityPlaces(), to), litres, between(densityPlaces(), from))
		checkCode(t, got, code, want, impl.OK, "ExpandedVolume", litres, from, to)
		if from <= to && got < litres || from >= to && got > litres {
			t.Errorf("ExpandedVolume(%d, %d, %d) = %d", litres, from, to, got)
		}
	}
	refused := [][3]int64{}
	for _, litres := range beyond(0, 1000000000) {
		refused = append(refused, [3]int64{litres, 0, 0})
	}
	for _, temperature := range beyond(impl.MinWater, impl.MaxWater) {
		refused = append(refused, [3]int64{1, temperature, 0}, [3]int64{1, 0, temperature})
	}
	for _, r := range refused {
		got, code := impl.ExpandedVolume(r[0], r[1], r[2])
		checkCode(t, got, code, 0, impl.ErrRange, "ExpandedVolume", r[0], r[1], r[2])
	}
}

func TestHeadPressure(t *testing.T) {
	cases := []struct{ height, temperature, want int64 }{
		{1000, 0, 98084}, {-1000, 0, -98084}, {0, 8000, 0}, {1, 0, 98}, {-1, 0, -98},
		{200000, 0, 19616861}, {-200000, 18000, -17402940},
	}
	for _, c := range cases {
		got, code := impl.HeadPressure(c.height, c.temperature)
		checkCode(t, got, code, c.want, impl.OK, "HeadPressure", c.height, c.temperature)
	}
	random := rand.New(rand.NewSource(7))
	for range 3000 {
		height, temperature := random.Int63n(400001)-200000, random.Int63n(impl.MaxWater+1)
		got, code := impl.HeadPressure(height, temperature)
		want := quotientOf(1000000, between(densityPlaces(), temperature), height, 981)
		checkCode(t, got, code, want, impl.OK, "HeadPressure", height, temperature)
	}
	for _, height := range beyond(-200000, 200000) {
		got, code := impl.HeadPressure(height, 0)
		checkCode(t, got, code, 0, impl.ErrRange, "HeadPressure", height, 0)
	}
	for _, temperature := range beyond(impl.MinWater, impl.MaxWater) {
		got, code := impl.HeadPressure(1000, temperature)
		checkCode(t, got, code, 0, impl.ErrRange, "HeadPressure", 1000, temperature)
	}
}

func TestEnergyOf(t *testing.T) {
	cases := []struct{ power, minutes, want int64 }{
		{1000, 90, 1500}, {0, 90, 0}, {1000, 0, 0}, {1, 29, 0}, {1, 30, 1}, {1, 31, 1}, {1, 89, 1}, {1, 90, 2},
		{impl.MaxPressure, 1000000, 1666666666667}, {impl.MaxPressure, 60, impl.MaxPressure},
	}
	for _, c := range cases {
		got, code := impl.EnergyOf(c.power, c.minutes)
		checkCode(t, got, code, c.want, impl.OK, "EnergyOf", c.power, c.minutes)
	}
	for _, power := range beyond(0, impl.MaxPressure) {
		got, code := impl.EnergyOf(power, 60)
		checkCode(t, got, code, 0, impl.ErrRange, "EnergyOf", power, 60)
	}
	for _, minutes := range beyond(0, 1000000) {
		got, code := impl.EnergyOf(1000, minutes)
		checkCode(t, got, code, 0, impl.ErrRange, "EnergyOf", 1000, minutes)
	}
}

func TestDegreesText(t *testing.T) {
	cases := map[int64]string{
		0: "0.00", 1: "0.01", -1: "-0.01", 5: "0.05", -5: "-0.05", 10: "0.10", 99: "0.99", -99: "-0.99",
		100: "1.00", -100: "-1.00", 8000: "80.00", -4007: "-40.07", 99999: "999.99", -99999: "-999.99",
	}
	for temperature, want := range cases {
		if got := impl.DegreesText(temperature); got != want {
			t.Errorf("DegreesText(%d) = %q, want %q", temperature, got, want)
		}
	}
	for _, temperature := range beyond(-99999, 99999) {
		if got := impl.DegreesText(temperature); got != "" {
			t.Errorf("DegreesText(%d) = %q", temperature, got)
		}
	}
}

func TestDegreesAreReadBack(t *testing.T) {
	for temperature := int64(-99999); temperature <= 99999; temperature++ {
		if got, ok := impl.ReadDegrees(impl.DegreesText(temperature)); got != temperature || !ok {
			t.Errorf("ReadDegrees(%q) = %d, %v", impl.DegreesText(temperature), got, ok)
		}
	}
}

func TestReadDegreesRefuses(t *testing.T) {
	texts := append(extremeTexts(),
		"-0.00", "+1.00", "+0.05", "00.00", "01.00", "-01.00", "80", "8000", "80.", ".80", "-.80", "80.0", "80.000",
		"8.000", "800.0", "80,00", "80.00 ", " 80.00", "80.00\n", "8 0.00", "80. 00", "80.-5", "80.+5", "--80.00",
		"-", ".", "-.", "..", "8..00", "80.00.", "80.0a", "0x8.00", "8_0.00", "1e1.00", "1000.00", "-1000.00",
		"999.990", "٨.00", "184467440737095516.16", "92233720368547758.08", "-92233720368547758.08")
	for _, s := range texts {
		if got, ok := impl.ReadDegrees(s); got != 0 || ok {
			t.Errorf("ReadDegrees(%q) = %d, %v", s, got, ok)
		}
	}
}
