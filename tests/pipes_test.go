package tests

import (
	"math"
	"math/rand"
	"slices"
	"strings"
	"testing"

	"loop.example/g01011/impl"
)

// Promise 4: drops grow with flows and change their sign with them, and heat is lost to the colder side only.

func mainPipe() impl.Pipe {
	return impl.Pipe{Id: "main", From: 0, To: 1, Length: 500, Diameter: 100, Loss: 300}
}

func pipeOf(length, diameter, loss int64) impl.Pipe {
	return impl.Pipe{Id: "a", From: 15, To: 0, Length: length, Diameter: diameter, Loss: loss}
}

func randomPipe(random *rand.Rand) impl.Pipe {
	length := 1 + random.Int63n(impl.MaxLength)>>random.Intn(14)
	diameter := impl.MinWidth + random.Int63n(impl.MaxWidth-impl.MinWidth+1)>>random.Intn(7)
	return pipeOf(length, diameter, random.Int63n(impl.MaxLoss+1))
}

func randomFlow(random *rand.Rand) int64 {
	return (random.Int63n(2*impl.MaxFlow+1) - impl.MaxFlow) / (1 << random.Intn(17))
}

func randomTemperature(random *rand.Rand) int64 {
	return random.Int63n(impl.MaxDegrees-impl.MinDegrees+1) + impl.MinDegrees
}

func magnitude(n int64) int64 {
	if n < 0 {
		return -n
	}
	return n
}

// exactDrop is the drop of a flow whatever its limit is.
func exactDrop(p impl.Pipe, flow int64) int64 {
	d := p.Diameter
	return quotientOf(d*d*d*d*d, p.Length, 16200, flow, magnitude(flow))
}

// notNames are no Ids of anything.
func notNames() []string {
	return []string{"", "7a", "Main", "a b", "a-b", "abcdefghijk", "é", "a\x00"}
}

// invalidPipes are those with one thing wrong.
func invalidPipes() []impl.Pipe {
	list := []impl.Pipe{{}}
	change := func(set func(*impl.Pipe)) {
		p := mainPipe()
		set(&p)
		list = append(list, p)
	}
	for _, id := range notNames() {
		change(func(p *impl.Pipe) { p.Id = id })
	}
	for _, n := range beyond(0, impl.MaxNodes-1) {
		change(func(p *impl.Pipe) { p.From = n })
		change(func(p *impl.Pipe) { p.To = n })
	}
	for _, node := range []int64{0, 7, impl.MaxNodes - 1} {
		change(func(p *impl.Pipe) { p.From, p.To = node, node })
	}
	for _, n := range append(beyond(1, impl.MaxLength), -500) {
		change(func(p *impl.Pipe) { p.Length = n })
	}
	for _, n := range append(beyond(impl.MinWidth, impl.MaxWidth), 0, -100) {
		change(func(p *impl.Pipe) { p.Diameter = n })
	}
	for _, n := range beyond(0, impl.MaxLoss) {
		change(func(p *impl.Pipe) { p.Loss = n })
	}
	return list
}

func TestValidPipe(t *testing.T) {
	valid := []impl.Pipe{
		mainPipe(),
		{Id: "a", From: 0, To: 15, Length: 1, Diameter: 20, Loss: 0},
		{Id: "abcdefghij", From: 15, To: 0, Length: 10000, Diameter: 1000, Loss: 5000},
		{Id: "p7", From: 15, To: 14, Length: 10000, Diameter: 20, Loss: 1},
	}
	for _, p := range valid {
		if !impl.ValidPipe(p) {
			t.Errorf("ValidPipe(%+v) = false", p)
		}
	}
	for _, p := range invalidPipes() {
		if impl.ValidPipe(p) {
			t.Errorf("ValidPipe(%+v) = true", p)
		}
	}
}

// call is a function of a pipe with its other arguments given.
type call struct {
	name string
	of   func(impl.Pipe) (int64, int64)
}

// pipeCalls are the functions of a pipe, each with the given numbers.
func pipeCalls(flow, drop, water, ground int64) []call {
	return []call{
		{"DropOf", func(p impl.Pipe) (int64, int64) { return impl.DropOf(p, flow) }},
		{"FlowFor", func(p impl.Pipe) (int64, int64) { return impl.FlowFor(p, drop) }},
		{"WidthFor", func(p impl.Pipe) (int64, int64) { return impl.WidthFor(p, flow, drop) }},
		{"WaterIn", impl.WaterIn},
		{"DelayOf", func(p impl.Pipe) (int64, int64) { return impl.DelayOf(p, flow) }},
		{"SpeedOf", func(p impl.Pipe) (int64, int64) { return impl.SpeedOf(p, flow) }},
		{"LossOf", func(p impl.Pipe) (int64, int64) { return impl.LossOf(p, water, ground) }},
		{"EndTemperature", func(p impl.Pipe) (int64, int64) { return impl.EndTemperature(p, flow, water, ground) }},
	}
}

func TestInvalidPipesAreRefusedFirst(t *testing.T) {
	for _, p := range invalidPipes() {
		ordinary, wrong := pipeCalls(5000, 1000, 8000, 800), pipeCalls(100001, -1, 20001, -5001)
		still := pipeCalls(0, 0, 8000, 800)
		for _, c := range append(append(ordinary, wrong...), still...) {
			got, code := c.of(p)
			checkCode(t, got, code, 0, impl.ErrInvalid, c.name, p)
		}
		if turned, code := impl.TurnPipe(p); turned != (impl.Pipe{}) || code != impl.ErrInvalid {
			t.Errorf("TurnPipe(%+v) = %+v, %d", p, turned, code)
		}
		if got := impl.PipeText(p); got != "" {
			t.Errorf("PipeText(%+v) = %q", p, got)
		}
	}
}

func TestNumbersOfPipesAreInRange(t *testing.T) {
	// With the flow 0 and the narrowest pipe other errors would follow.
	narrow := pipeOf(10000, 20, 5000)
	takes := map[string]string{
		"DropOf": "flow", "FlowFor": "drop", "WidthFor": "flow drop", "WaterIn": "", "DelayOf": "flow",
		"SpeedOf": "flow", "LossOf": "water ground", "EndTemperature": "flow water ground",
	}
	refuse := func(argument string, calls []call) {
		for _, c := range calls {
			if !strings.Contains(takes[c.name], argument) {
				continue
			}
			got, code := c.of(narrow)
			checkCode(t, got, code, 0, impl.ErrRange, c.name, argument)
		}
	}
	for _, n := range beyond(-impl.MaxFlow, impl.MaxFlow) {
		refuse("flow", pipeCalls(n, 0, 8000, 800))
	}
	for _, n := range beyond(0, impl.MaxPressure) {
		refuse("drop", pipeCalls(100000, n, 8000, 800))
	}
	for _, n := range beyond(impl.MinDegrees, impl.MaxDegrees) {
		refuse("water", pipeCalls(0, 0, n, 800))
		refuse("ground", pipeCalls(0, 0, 8000, n))
		refuse("water", pipeCalls(0, 0, n, n))
	}
}

func TestDropOf(t *testing.T) {
	cases := []struct {
		p                impl.Pipe
		flow, want, code int64
	}{
		{mainPipe(), 5000, 20250, impl.OK},
		{mainPipe(), -5000, -20250, impl.OK},
		{mainPipe(), 0, 0, impl.OK},
		{pipeOf(10000, 20, 0), 0, 0, impl.OK},
		// A drop of just a half is rounded away from 0 on both sides.
		{pipeOf(750, 30, 0), 1, 1, impl.OK},
		{pipeOf(750, 30, 0), -1, -1, impl.OK},
		{pipeOf(749, 30, 0), 1, 0, impl.OK},
		{pipeOf(749, 30, 0), -1, 0, impl.OK},
		{pipeOf(1, 1000, 0), 100000, 0, impl.OK},
		{pipeOf(10000, 1000, 0), 100000, 1620, impl.OK},
		{pipeOf(10000, 1000, 0), -100000, -1620, impl.OK},
		// The greatest drop is just reached, and just passed.
		{pipeOf(42, 21, 0), 24500, impl.MaxPressure, impl.OK},
		{pipeOf(42, 21, 0), -24500, -impl.MaxPressure, impl.OK},
		{pipeOf(42, 21, 0), 24501, 0, impl.ErrState},
		{pipeOf(42, 21, 0), -24501, 0, impl.ErrState},
		{pipeOf(7992, 100, 0), 87885, 0, impl.ErrState},
		{pipeOf(7992, 100, 0), -87885, 0, impl.ErrState},
		{pipeOf(10000, 20, 0), 100000, 0, impl.ErrState},
		{pipeOf(10000, 20, 0), -100000, 0, impl.ErrState},
		{pipeOf(10000, 20, 0), 100001, 0, impl.ErrRange},
		{pipeOf(10000, 20, 0), -100001, 0, impl.ErrRange},
	}
	for _, c := range cases {
		got, code := impl.DropOf(c.p, c.flow)
		checkCode(t, got, code, c.want, c.code, "DropOf", c.p, c.flow)
	}
}

func TestDropsAreExactAndGrow(t *testing.T) {
	random := rand.New(rand.NewSource(8))
	for range 10000 {
		p, flow := randomPipe(random), randomFlow(random)
		got, code := impl.DropOf(p, flow)
		want, wantCode := exactDrop(p, flow), int64(impl.OK)
		if magnitude(want) > impl.MaxPressure {
			want, wantCode = 0, impl.ErrState
		}
		checkCode(t, got, code, want, wantCode, "DropOf", p, flow)
		opposite, oppositeCode := impl.DropOf(p, -flow)
		checkCode(t, opposite, oppositeCode, -want, wantCode, "DropOf", p, -flow)
		more, moreCode := impl.DropOf(p, flow+1)
		if code == impl.OK && moreCode == impl.OK && more < got {
			t.Errorf("the drop of %d in %+v is %d, but that of one more %d", flow, p, got, more)
		}
	}
}

func TestFlowFor(t *testing.T) {
	cases := []struct {
		p          impl.Pipe
		drop, want int64
	}{
		{mainPipe(), 20000, 4969}, {mainPipe(), 20250, 5000}, {mainPipe(), 20249, 4999},
		{pipeOf(750, 30, 0), 0, 0}, {pipeOf(749, 30, 0), 0, 1}, {pipeOf(750, 30, 0), 1, 1},
		{pipeOf(42, 21, 0), impl.MaxPressure, 24500}, {pipeOf(42, 21, 0), impl.MaxPressure - 1, 24499},
		{pipeOf(1, 1000, 0), 0, impl.MaxFlow}, {pipeOf(1, 1000, 0), impl.MaxPressure, impl.MaxFlow},
		{pipeOf(10000, 1000, 0), 1620, impl.MaxFlow}, {pipeOf(10000, 1000, 0), 1619, 99984},
	}
	for _, c := range cases {
		got, code := impl.FlowFor(c.p, c.drop)
		checkCode(t, got, code, c.want, impl.OK, "FlowFor", c.p, c.drop)
	}
}

func TestFlowForIsTheGreatestOne(t *testing.T) {
	random := rand.New(rand.NewSource(9))
	for range 5000 {
		p, drop := randomPipe(random), random.Int63n(impl.MaxPressure+1)>>random.Intn(28)
		flow, code := impl.FlowFor(p, drop)
		if code != impl.OK || flow < 0 || flow > impl.MaxFlow || exactDrop(p, flow) > drop {
			t.Errorf("FlowFor(%+v, %d) = %d, %d", p, drop, flow, code)
		}
		if flow < impl.MaxFlow && exactDrop(p, flow+1) <= drop {
			t.Errorf("FlowFor(%+v, %d) = %d, but more is possible", p, drop, flow)
		}
	}
}

func TestWidthFor(t *testing.T) {
	cases := []struct {
		p                      impl.Pipe
		flow, drop, want, code int64
	}{
		{mainPipe(), 5000, 1000, 183, impl.OK}, {mainPipe(), -5000, 1000, 183, impl.OK},
		{mainPipe(), 5000, 20250, 100, impl.OK}, {mainPipe(), -5000, 20250, 100, impl.OK},
		{mainPipe(), 5000, 20249, 101, impl.OK}, {mainPipe(), -5000, 20249, 101, impl.OK},
		{mainPipe(), 0, 0, impl.MinWidth, impl.OK}, {mainPipe(), 1, impl.MaxPressure, impl.MinWidth, impl.OK},
		// The diameter of the pipe itself does not matter.
		{pipeOf(500, 1000, 0), -5000, 1000, 183, impl.OK}, {pipeOf(500, 20, 0), 5000, 1000, 183, impl.OK},
		{pipeOf(10000, 20, 0), 100000, 1620, impl.MaxWidth, impl.OK},
		{pipeOf(10000, 20, 0), -100000, 1620, impl.MaxWidth, impl.OK},
		{pipeOf(10000, 20, 0), 100000, 1619, 0, impl.ErrNotFound},
		{pipeOf(10000, 20, 0), -100000, 1619, 0, impl.ErrNotFound},
		{pipeOf(10000, 20, 0), -100000, 0, 0, impl.ErrNotFound},
		{pipeOf(10000, 20, 0), -100000, -1, 0, impl.ErrRange},
		{pipeOf(10000, 20, 0), -100001, 0, 0, impl.ErrRange},
	}
	for _, c := range cases {
		got, code := impl.WidthFor(c.p, c.flow, c.drop)
		checkCode(t, got, code, c.want, c.code, "WidthFor", c.p, c.flow, c.drop)
	}
}

func TestWidthForIsTheLeastOne(t *testing.T) {
	random := rand.New(rand.NewSource(10))
	for range 5000 {
		p, flow, drop := randomPipe(random), randomFlow(random), random.Int63n(impl.MaxPressure+1)>>random.Intn(28)
		width, code := impl.WidthFor(p, flow, drop)
		if code == impl.ErrNotFound {
			widest := pipeOf(p.Length, impl.MaxWidth, 0)
			if width != 0 || magnitude(exactDrop(widest, flow)) <= drop {
				t.Errorf("WidthFor(%+v, %d, %d) = %d, not found", p, flow, drop, width)
			}
			continue
		}
		wide, narrow := pipeOf(p.Length, width, 0), pipeOf(p.Length, width-1, 0)
		if code != impl.OK || !impl.ValidPipe(wide) || magnitude(exactDrop(wide, flow)) > drop {
			t.Errorf("WidthFor(%+v, %d, %d) = %d, %d", p, flow, drop, width, code)
		}
		if impl.ValidPipe(narrow) && magnitude(exactDrop(narrow, flow)) <= drop {
			t.Errorf("WidthFor(%+v, %d, %d) = %d, but less is enough", p, flow, drop, width)
		}
	}
}

func TestWaterIn(t *testing.T) {
	cases := []struct {
		p    impl.Pipe
		want int64
	}{
		{mainPipe(), 3927000}, {pipeOf(1, 20, 0), 314}, {pipeOf(10000, 1000, 0), 7854000000},
		// The last two are just a half more than a whole number, and are rounded up.
		{pipeOf(1, 25, 0), 491}, {pipeOf(2, 25, 0), 982}, {pipeOf(1, 50, 0), 1964}, {pipeOf(3, 50, 0), 5891},
	}
	for _, c := range cases {
		got, code := impl.WaterIn(c.p)
		checkCode(t, got, code, c.want, impl.OK, "WaterIn", c.p)
	}
	random := rand.New(rand.NewSource(11))
	for range 2000 {
		p := randomPipe(random)
		got, code := impl.WaterIn(p)
		checkCode(t, got, code, quotientOf(10000, p.Length, p.Diameter, p.Diameter, 7854), impl.OK, "WaterIn", p)
	}
}

func TestDelayOf(t *testing.T) {
	cases := []struct {
		p                impl.Pipe
		flow, want, code int64
	}{
		{mainPipe(), 5000, 786, impl.OK}, {mainPipe(), -5000, 786, impl.OK},
		{mainPipe(), 3927, 1000, impl.OK}, {mainPipe(), -3927, 1000, impl.OK},
		{mainPipe(), 3926, 1001, impl.OK}, {mainPipe(), 3928, 1000, impl.OK},
		{mainPipe(), 1, 3927000, impl.OK}, {mainPipe(), -1, 3927000, impl.OK},
		{pipeOf(1, 20, 0), 100000, 1, impl.OK}, {pipeOf(1, 20, 0), -100000, 1, impl.OK},
		{pipeOf(1, 20, 0), 314, 1, impl.OK}, {pipeOf(1, 20, 0), -313, 2, impl.OK},
		{pipeOf(10000, 1000, 0), -1, 7854000000, impl.OK},
		{mainPipe(), 0, 0, impl.ErrState}, {mainPipe(), -100001, 0, impl.ErrRange},
	}
	for _, c := range cases {
		got, code := impl.DelayOf(c.p, c.flow)
		checkCode(t, got, code, c.want, c.code, "DelayOf", c.p, c.flow)
	}
}

func TestSpeedOf(t *testing.T) {
	cases := []struct {
		p          impl.Pipe
		flow, want int64
	}{
		{mainPipe(), 5000, 64}, {mainPipe(), -5000, -64}, {mainPipe(), 0, 0},
		{mainPipe(), 39, 0}, {mainPipe(), 40, 1}, {mainPipe(), -39, 0}, {mainPipe(), -40, -1},
		// Here the speed is just a half.
		{pipeOf(1, 1000, 0), 3927, 1}, {pipeOf(1, 1000, 0), -3927, -1}, {pipeOf(1, 1000, 0), 3926, 0},
		{pipeOf(1, 20, 0), 100000, 31831}, {pipeOf(1, 20, 0), -100000, -31831},
	}
	for _, c := range cases {
		got, code := impl.SpeedOf(c.p, c.flow)
		checkCode(t, got, code, c.want, impl.OK, "SpeedOf", c.p, c.flow)
	}
	random := rand.New(rand.NewSource(12))
	for range 2000 {
		p, flow := randomPipe(random), randomFlow(random)
		got, code := impl.SpeedOf(p, flow)
		checkCode(t, got, code, quotientOf(7854*p.Diameter*p.Diameter, 1000000, flow), impl.OK, "SpeedOf", p, flow)
	}
}

func TestLossOf(t *testing.T) {
	cases := []struct {
		p                   impl.Pipe
		water, ground, want int64
	}{
		{mainPipe(), 8000, 800, 10800}, {mainPipe(), 800, 8000, -10800}, {mainPipe(), 800, 800, 0},
		{pipeOf(10000, 20, 5000), 20000, -5000, 12500000}, {pipeOf(10000, 20, 5000), -5000, 20000, -12500000},
		{pipeOf(10000, 20, 0), 20000, -5000, 0},
		{pipeOf(500, 20, 1), 100, 0, 1}, {pipeOf(500, 20, 1), 99, 0, 0},
		{pipeOf(500, 20, 1), 0, 100, -1}, {pipeOf(500, 20, 1), -100, 0, -1}, {pipeOf(500, 20, 1), 0, 99, 0},
	}
	for _, c := range cases {
		got, code := impl.LossOf(c.p, c.water, c.ground)
		checkCode(t, got, code, c.want, impl.OK, "LossOf", c.p, c.water, c.ground)
	}
}

func TestEndTemperature(t *testing.T) {
	cases := []struct {
		p                         impl.Pipe
		flow, water, ground, want int64
	}{
		{mainPipe(), 5000, 8000, 800, 7948}, {mainPipe(), -5000, 8000, 800, 7948},
		{mainPipe(), 5000, 800, 8000, 852}, {mainPipe(), -5000, 800, 8000, 852},
		{mainPipe(), 0, 8000, 800, 800}, {mainPipe(), 0, 800, 8000, 8000}, {mainPipe(), 0, 800, 800, 800},
		{mainPipe(), 1, 8000, 800, 800}, {mainPipe(), -1, 8000, 800, 800},
		{mainPipe(), 1, -500, 800, 800}, {mainPipe(), -1, -500, 800, 800},
		{mainPipe(), 5000, 800, 800, 800}, {mainPipe(), -1, -5000, -5000, -5000},
		{pipeOf(10000, 20, 0), 1, 20000, -5000, 20000}, {pipeOf(10000, 20, 0), 0, 20000, -5000, -5000},
		{pipeOf(10000, 20, 5000), 1, 20000, -5000, -5000}, {pipeOf(10000, 20, 5000), -1, -5000, 20000, 20000},
		{pipeOf(1, 20, 1), 100000, 20000, -5000, 20000},
		// These would fall by 7372, which is beyond the ground, and by 7167, which is not.
		{mainPipe(), 35, 8000, 800, 800}, {mainPipe(), 36, 8000, 800, 833}, {mainPipe(), -36, 8000, 800, 833},
	}
	for _, c := range cases {
		got, code := impl.EndTemperature(c.p, c.flow, c.water, c.ground)
		checkCode(t, got, code, c.want, impl.OK, "EndTemperature", c.p, c.flow, c.water, c.ground)
	}
}

func TestHeatIsLostToTheColderSideOnly(t *testing.T) {
	random := rand.New(rand.NewSource(13))
	for range 10000 {
		p, flow := randomPipe(random), randomFlow(random)
		water, ground := randomTemperature(random), randomTemperature(random)
		loss, code := impl.LossOf(p, water, ground)
		checkCode(t, loss, code, quotientOf(100000, p.Loss, p.Length, water-ground), impl.OK, "LossOf", p, water, ground)
		if water > ground && loss < 0 || water < ground && loss > 0 || water == ground && loss != 0 {
			t.Errorf("LossOf(%+v, %d, %d) = %d", p, water, ground, loss)
		}
		want := ground
		if flow != 0 {
			fall := quotientOf(4186*magnitude(flow), 100000, loss)
			if magnitude(fall) < magnitude(water-ground) {
				want = water - fall
			}
		}
		end, code := impl.EndTemperature(p, flow, water, ground)
		checkCode(t, end, code, want, impl.OK, "EndTemperature", p, flow, water, ground)
		if end < min(water, ground) || end > max(water, ground) {
			t.Errorf("EndTemperature(%+v, %d, %d, %d) = %d, which is not between", p, flow, water, ground, end)
		}
	}
}

func TestHeatFlow(t *testing.T) {
	cases := []struct{ flow, warm, cold, want int64 }{
		{1000, 8000, 6000, 83720}, {-1000, 8000, 6000, -83720}, {1000, 6000, 8000, -83720}, {-1000, 6000, 8000, 83720},
		{0, 8000, 6000, 0}, {1000, 6000, 6000, 0}, {-1000, -5000, -5000, 0},
		{25, 1, 0, 1}, {-25, 1, 0, -1}, {1, 11, 0, 0}, {-1, 11, 0, 0}, {125, 100, 0, 523}, {-125, 100, 0, -523},
		{100000, 20000, -5000, 104650000}, {-100000, 20000, -5000, -104650000}, {-100000, -5000, 20000, 104650000},
	}
	for _, c := range cases {
		got, code := impl.HeatFlow(c.flow, c.warm, c.cold)
		checkCode(t, got, code, c.want, impl.OK, "HeatFlow", c.flow, c.warm, c.cold)
	}
	random := rand.New(rand.NewSource(14))
	for range 3000 {
		flow, warm, cold := randomFlow(random), randomTemperature(random), randomTemperature(random)
		got, code := impl.HeatFlow(flow, warm, cold)
		checkCode(t, got, code, quotientOf(100000, 4186, flow, warm-cold), impl.OK, "HeatFlow", flow, warm, cold)
	}
	refused := [][3]int64{}
	for _, flow := range beyond(-impl.MaxFlow, impl.MaxFlow) {
		refused = append(refused, [3]int64{flow, 8000, 6000})
	}
	for _, temperature := range beyond(impl.MinDegrees, impl.MaxDegrees) {
		refused = append(refused, [3]int64{1, temperature, 0}, [3]int64{-1, 0, temperature}, [3]int64{0, temperature, temperature})
	}
	for _, r := range refused {
		got, code := impl.HeatFlow(r[0], r[1], r[2])
		checkCode(t, got, code, 0, impl.ErrRange, "HeatFlow", r[0], r[1], r[2])
	}
}

func TestTurnPipe(t *testing.T) {
	want := impl.Pipe{Id: "main", From: 1, To: 0, Length: 500, Diameter: 100, Loss: 300}
	turned, code := impl.TurnPipe(mainPipe())
	if turned != want || code != impl.OK {
		t.Errorf("TurnPipe(%+v) = %+v, %d", mainPipe(), turned, code)
	}
	if again, code := impl.TurnPipe(turned); again != mainPipe() || code != impl.OK {
		t.Errorf("TurnPipe(%+v) = %+v, %d", turned, again, code)
	}
}

func TestPipesAreReadBack(t *testing.T) {
	texts := []string{
		"main 0,1,500,100,300", "a 15,0,1,20,0", "abcdefghij 0,15,10000,1000,5000", "z9 14,15,1,1000,5000",
	}
	for _, s := range texts {
		p, ok := impl.ReadPipe(s)
		if !ok || !impl.ValidPipe(p) || impl.PipeText(p) != s {
			t.Errorf("ReadPipe(%q) = %+v, %v", s, p, ok)
		}
	}
	if got := impl.PipeText(mainPipe()); got != texts[0] {
		t.Errorf("PipeText(%+v) = %q", mainPipe(), got)
	}
	random := rand.New(rand.NewSource(15))
	for range 1000 {
		p := randomPipe(random)
		if got, ok := impl.ReadPipe(impl.PipeText(p)); got != p || !ok {
			t.Errorf("ReadPipe(%q) = %+v, %v", impl.PipeText(p), got, ok)
		}
	}
}

func TestReadPipeRefuses(t *testing.T) {
	texts := append(extremeTexts(),
		"main", "main ", " main", "main -", "main 0", "main 0,1,500,100", "main 0,1,500,100,300,0", "0,1,500,100,300",
		" 0,1,500,100,300", " main 0,1,500,100,300", "main  0,1,500,100,300", "main 0,1,500,100,300 ", "main\t0,1,500,100,300",
		"main 0,1,500,100,300\n", "main 0, 1,500,100,300", "main 0 1 500 100 300", "main 00,1,500,100,300",
		"main 0,01,500,100,300", "main 0,1,+500,100,300", "main -0,1,500,100,300", "main 0,1,500,100,300,",
		"main ,0,1,500,100,300", "main 0,1,500,100,-", "main x 0,1,500,100,300", "Main 0,1,500,100,300",
		"7main 0,1,500,100,300", "abcdefghijk 0,1,500,100,300", "ma-in 0,1,500,100,300", "main\x00 0,1,500,100,300",
		"main 1,1,500,100,300", "main 16,1,500,100,300", "main 0,16,500,100,300", "main -1,1,500,100,300",
		"main 0,-1,500,100,300", "main 0,1,0,100,300", "main 0,1,10001,100,300", "main 0,1,-500,100,300",
		"main 0,1,500,19,300", "main 0,1,500,1001,300", "main 0,1,500,-100,300", "main 0,1,500,100,-1",
		"main 0,1,500,100,5001", "main 0,1,500,100,1000000000001", "main "+strings.Repeat("1,", 1000)+"1",
		strings.Repeat("a", 100000)+" 0,1,500,100,300")
	for _, s := range texts {
		if p, ok := impl.ReadPipe(s); p != (impl.Pipe{}) || ok {
			t.Errorf("ReadPipe(%q) = %+v, %v", s, p, ok)
		}
	}
	// A pipe whose numbers do not fit into a list is no pipe either.
	if got := impl.PipeText(impl.Pipe{Id: "a", From: math.MinInt64, To: 1, Length: 1, Diameter: 20}); got != "" {
		t.Errorf("PipeText of an invalid pipe = %q", got)
	}
}

// The other tests take their limits from the program, so these are written out.
func TestConstantsOfWaterAndPipes(t *testing.T) {
	got := []int64{
		impl.MinWater, impl.MaxWater, impl.MinSteam, impl.MaxSteam, impl.HeatOfWater,
		impl.MaxNodes, impl.MaxFlow, impl.MaxPressure, impl.MaxLength, impl.MinWidth, impl.MaxWidth, impl.MaxLoss,
		impl.MinDegrees, impl.MaxDegrees,
	}
	want := []int64{
		0, 18000, 1000, 1200000, 4186,
		16, 100000, 100000000, 10000, 20, 1000, 5000,
		-5000, 20000,
	}
	if !slices.Equal(got, want) {
		t.Errorf("the constants are %d, want %d", got, want)
	}
}
