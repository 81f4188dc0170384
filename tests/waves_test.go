package tests

import (
	"fmt"
	"math"
	"math/rand"
	"slices"
	"strings"
	"testing"

	"loop.example/g01011/impl"
)

// Promise 10: a wave that is delayed has the same temperatures later, and mixed waves lie between their parts.

// waveWith returns a wave with steps of a time and a temperature each.
func waveWith(steps ...[2]int64) []impl.Step {
	var w []impl.Step
	for _, s := range steps {
		w = append(w, impl.Step{Time: s[0], Degrees: s[1]})
	}
	return w
}

// regularWave has as many steps as told, one every so many seconds; its temperatures rise by 10, or are all the same.
func regularWave(count int, every, rise int64) []impl.Step {
	var w []impl.Step
	for i := range int64(count) {
		w = append(w, impl.Step{Time: i * every, Degrees: 3000 + i*rise})
	}
	return w
}

// warmWave becomes warmer after a minute.
func warmWave() []impl.Step {
	return waveWith([2]int64{0, 8000}, [2]int64{60, 9000})
}

// restlessWave has steps that change nothing, one of them at its end.
func restlessWave() []impl.Step {
	return waveWith([2]int64{0, 5}, [2]int64{3, 5}, [2]int64{7, -20}, [2]int64{8, -20}, [2]int64{9, -20}, [2]int64{15, 5}, [2]int64{20, 5})
}

func validWaves() [][]impl.Step {
	return [][]impl.Step{
		warmWave(), restlessWave(), waveWith([2]int64{0, 0}), waveWith([2]int64{0, impl.MinDegrees}), waveWith([2]int64{0, impl.MaxDegrees}),
		waveWith([2]int64{0, impl.MinDegrees}, [2]int64{1, impl.MaxDegrees}, [2]int64{impl.MaxTime, impl.MinDegrees}),
		waveWith([2]int64{0, 7}, [2]int64{impl.MaxTime, 7}), regularWave(impl.MaxSteps, 1, 10), regularWave(impl.MaxSteps, 40000, 0),
		regularWave(impl.MaxSteps, impl.MaxTime/(impl.MaxSteps-1), -10),
	}
}

// invalidWaves have one thing wrong.
func invalidWaves() [][]impl.Step {
	waves := [][]impl.Step{
		nil, {}, waveWith([2]int64{1, 5}), waveWith([2]int64{-1, 5}), waveWith([2]int64{-1, 5}, [2]int64{0, 5}), waveWith([2]int64{1, 5}, [2]int64{0, 5}),
		waveWith([2]int64{0, 5}, [2]int64{0, 5}), waveWith([2]int64{0, 5}, [2]int64{0, 6}), waveWith([2]int64{0, 5}, [2]int64{3, 6}, [2]int64{3, 7}),
		waveWith([2]int64{0, 5}, [2]int64{3, 6}, [2]int64{2, 7}), waveWith([2]int64{0, 5}, [2]int64{3, 6}, [2]int64{0, 7}),
		regularWave(impl.MaxSteps+1, 1, 10), regularWave(impl.MaxSteps+1, 1, 0), make([]impl.Step, 100000),
	}
	for _, n := range beyond(0, impl.MaxTime) {
		waves = append(waves, waveWith([2]int64{n, 5}), waveWith([2]int64{0, 5}, [2]int64{n, 6}), waveWith([2]int64{0, 5}, [2]int64{n, 6}, [2]int64{9, 7}))
	}
	for _, n := range beyond(impl.MinDegrees, impl.MaxDegrees) {
		waves = append(waves, waveWith([2]int64{0, n}), waveWith([2]int64{0, n}, [2]int64{3, 6}), waveWith([2]int64{0, 5}, [2]int64{3, n}))
	}
	return waves
}

// randomWave returns a wave some steps of which change nothing, with steps at most so many seconds apart.
func randomWave(random *rand.Rand, widest int64) []impl.Step {
	var w []impl.Step
	time, base := int64(0), randomTemperature(random)/2
	kinds := 1 + random.Int63n(1000)>>random.Intn(10)
	count := 1 + random.Intn(impl.MaxSteps)
	if random.Intn(3) == 0 {
		count = impl.MaxSteps
	}
	for range count {
		w = append(w, impl.Step{Time: time, Degrees: base + random.Int63n(kinds)})
		time += 1 + random.Int63n(widest)
	}
	return w
}

// degreesAt is the temperature of a wave by its definition.
func degreesAt(w []impl.Step, time int64) int64 {
	degrees := int64(math.MinInt64)
	for _, s := range w {
		if s.Time <= time {
			degrees = s.Degrees
		}
	}
	return degrees
}

// waveBy is the trimmed wave with the temperatures that a function has from 0 to before a time.
func waveBy(until int64, degrees func(time int64) int64) []impl.Step {
	w := []impl.Step{{Time: 0, Degrees: degrees(0)}}
	for time := int64(1); time < until; time++ {
		if now := degrees(time); now != w[len(w)-1].Degrees {
			w = append(w, impl.Step{Time: time, Degrees: now})
		}
	}
	return w
}

func checkWave(t *testing.T, got []impl.Step, code int64, want []impl.Step, wantCode int64, what string, arguments ...any) {
	t.Helper()
	if !slices.Equal(got, want) || code != wantCode {
		t.Errorf("%s%v = %v, %d, want %v, %d", what, arguments, got, code, want, wantCode)
	}
}

func TestValidWave(t *testing.T) {
	random := rand.New(rand.NewSource(90))
	waves := validWaves()
	for range 300 {
		waves = append(waves, randomWave(random, 1+random.Int63n(40000)))
	}
	for _, w := range waves {
		if !impl.ValidWave(w) {
			t.Errorf("ValidWave(%v) = false", w)
		}
	}
	for _, w := range invalidWaves() {
		if impl.ValidWave(w) {
			t.Errorf("ValidWave(%v) = true", w[:min(len(w), 50)])
		}
	}
}

func TestSameWave(t *testing.T) {
	waves := append(validWaves(), invalidWaves()...)
	var texts []string
	for _, w := range waves {
		texts = append(texts, fmt.Sprint(w))
	}
	for i, a := range waves {
		for j, b := range waves {
			// The texts of nil and of an empty wave are the same, and so are both.
			if got, want := impl.SameWave(a, b), texts[i] == texts[j]; got != want {
				t.Errorf("SameWave of the places %d and %d = %v", i, j, got)
			}
		}
	}
	other := warmWave()
	other[1].Degrees++
	later := warmWave()
	later[1].Time++
	for _, w := range [][]impl.Step{other, later, warmWave()[:1], append(warmWave(), impl.Step{Time: 70, Degrees: 9000})} {
		if impl.SameWave(warmWave(), w) || impl.SameWave(w, warmWave()) {
			t.Errorf("SameWave takes %v for %v", w, warmWave())
		}
	}
	if !impl.SameWave(warmWave(), warmWave()) || !impl.SameWave(nil, []impl.Step{}) {
		t.Error("SameWave takes equal waves for different ones")
	}
}

func TestWaveAt(t *testing.T) {
	cases := []struct {
		w          []impl.Step
		time, want int64
	}{
		{warmWave(), 0, 8000}, {warmWave(), 59, 8000}, {warmWave(), 60, 9000}, {warmWave(), 61, 9000}, {warmWave(), impl.MaxTime, 9000},
		{restlessWave(), 2, 5}, {restlessWave(), 3, 5}, {restlessWave(), 6, 5}, {restlessWave(), 7, -20}, {restlessWave(), 14, -20}, {restlessWave(), 15, 5},
		{restlessWave(), 20, 5}, {waveWith([2]int64{0, -1}), 0, -1}, {waveWith([2]int64{0, -1}), impl.MaxTime, -1},
		{waveWith([2]int64{0, 1}, [2]int64{impl.MaxTime, 2}), impl.MaxTime - 1, 1}, {waveWith([2]int64{0, 1}, [2]int64{impl.MaxTime, 2}), impl.MaxTime, 2},
	}
	for _, c := range cases {
		got, code := impl.WaveAt(c.w, c.time)
		checkCode(t, got, code, c.want, impl.OK, "WaveAt", c.w, c.time)
	}
	random := rand.New(rand.NewSource(91))
	waves := validWaves()
	for range 100 {
		waves = append(waves, randomWave(random, 5))
	}
	for _, w := range waves {
		for time := range int64(130) {
			got, code := impl.WaveAt(w, time)
			checkCode(t, got, code, degreesAt(w, time), impl.OK, "WaveAt", w, time)
		}
	}
}

func TestDelayWave(t *testing.T) {
	most, last := regularWave(impl.MaxSteps, 10, 10), waveWith([2]int64{0, 7}, [2]int64{impl.MaxTime - 5, 7}, [2]int64{impl.MaxTime, 7})
	later := []impl.Step{{Time: 0, Degrees: 3000}}
	for i := range int64(impl.MaxSteps - 1) {
		later = append(later, impl.Step{Time: 15 + i*10, Degrees: 3010 + i*10})
	}
	cases := []struct {
		w             []impl.Step
		delay, before int64
		want          []impl.Step
		code          int64
	}{
		{warmWave(), 30, 2000, waveWith([2]int64{0, 2000}, [2]int64{30, 8000}, [2]int64{90, 9000}), impl.OK},
		{warmWave(), 30, 8000, waveWith([2]int64{0, 8000}, [2]int64{90, 9000}), impl.OK},
		{warmWave(), 30, 9000, waveWith([2]int64{0, 9000}, [2]int64{30, 8000}, [2]int64{90, 9000}), impl.OK},
		{warmWave(), 0, 2000, warmWave(), impl.OK}, {warmWave(), 0, 8000, warmWave(), impl.OK},
		{warmWave(), 1, -5000, waveWith([2]int64{0, -5000}, [2]int64{1, 8000}, [2]int64{61, 9000}), impl.OK},
		// Steps that change nothing are left out even if there is no delay.
		{restlessWave(), 0, 5, waveWith([2]int64{0, 5}, [2]int64{7, -20}, [2]int64{15, 5}), impl.OK},
		{restlessWave(), 2, 5, waveWith([2]int64{0, 5}, [2]int64{9, -20}, [2]int64{17, 5}), impl.OK},
		{restlessWave(), 2, 6, waveWith([2]int64{0, 6}, [2]int64{2, 5}, [2]int64{9, -20}, [2]int64{17, 5}), impl.OK},
		// The last step is just at the greatest time, and behind it.
		{warmWave(), impl.MaxTime - 60, 0, waveWith([2]int64{0, 0}, [2]int64{impl.MaxTime - 60, 8000}, [2]int64{impl.MaxTime, 9000}), impl.OK},
		{warmWave(), impl.MaxTime - 59, 0, nil, impl.ErrState}, {warmWave(), impl.MaxTime, 0, nil, impl.ErrState},
		{warmWave()[:1], impl.MaxTime, 0, waveWith([2]int64{0, 0}, [2]int64{impl.MaxTime, 8000}), impl.OK},
		// What is left out may be behind it.
		{restlessWave(), impl.MaxTime - 15, 6, waveWith([2]int64{0, 6}, [2]int64{impl.MaxTime - 15, 5}, [2]int64{impl.MaxTime - 8, -20}, [2]int64{impl.MaxTime, 5}), impl.OK},
		{restlessWave(), impl.MaxTime - 14, 6, nil, impl.ErrState}, {last, 1, 7, waveWith([2]int64{0, 7}), impl.OK}, {last, impl.MaxTime, 7, waveWith([2]int64{0, 7}), impl.OK},
		{last, impl.MaxTime, 8, waveWith([2]int64{0, 8}, [2]int64{impl.MaxTime, 7}), impl.OK},
		// There are more steps than allowed, but for those that change nothing.
		{most, 0, 0, most, impl.OK}, {most, 5, 0, nil, impl.ErrFull}, {most, 5, 3010, nil, impl.ErrFull}, {most, 5, 3000, later, impl.OK},
		{regularWave(impl.MaxSteps, 10, 0), 5, 0, waveWith([2]int64{0, 0}, [2]int64{5, 3000}), impl.OK},
		// A time that is too late counts before steps that are too many.
		{most, impl.MaxTime - 230, 0, nil, impl.ErrFull}, {most, impl.MaxTime - 229, 0, nil, impl.ErrState}, {most, impl.MaxTime - 229, 3000, nil, impl.ErrState},
	}
	for _, c := range cases {
		got, code := impl.DelayWave(c.w, c.delay, c.before)
		checkWave(t, got, code, c.want, c.code, "DelayWave", c.w, c.delay, c.before)
	}
}

func TestDelayedWavesAreTheSameLater(t *testing.T) {
	random := rand.New(rand.NewSource(92))
	full := 0
	for range 500 {
		w, delay := randomWave(random, 4), random.Int63n(100)>>random.Intn(8)
		before := w[0].Degrees + random.Int63n(2)
		want := waveBy(200, func(time int64) int64 {
			if time < delay {
				return before
			}
			return degreesAt(w, time-delay)
		})
		wantCode := int64(impl.OK)
		if len(want) > impl.MaxSteps {
			want, wantCode = nil, impl.ErrFull
			full++
		}
		got, code := impl.DelayWave(w, delay, before)
		checkWave(t, got, code, want, wantCode, "DelayWave", w, delay, before)
		if code == impl.OK && !impl.ValidWave(got) {
			t.Errorf("DelayWave(%v, %d, %d) = %v, which is no wave", w, delay, before, got)
		}
	}
	if full == 0 {
		t.Error("no delayed wave has too many steps")
	}
}

func TestTrimWave(t *testing.T) {
	cases := []struct{ w, want []impl.Step }{
		{waveWith([2]int64{0, 5}, [2]int64{7, 5}, [2]int64{9, 6}), waveWith([2]int64{0, 5}, [2]int64{9, 6})},
		{warmWave(), warmWave()}, {restlessWave(), waveWith([2]int64{0, 5}, [2]int64{7, -20}, [2]int64{15, 5})},
		{waveWith([2]int64{0, 0}), waveWith([2]int64{0, 0})}, {regularWave(impl.MaxSteps, 40000, 0), waveWith([2]int64{0, 3000})},
		{regularWave(impl.MaxSteps, 1, 1), regularWave(impl.MaxSteps, 1, 1)}, {regularWave(impl.MaxSteps, 1, -1), regularWave(impl.MaxSteps, 1, -1)},
	}
	for _, c := range cases {
		got, code := impl.TrimWave(c.w)
		checkWave(t, got, code, c.want, impl.OK, "TrimWave", c.w)
	}
	random := rand.New(rand.NewSource(93))
	for range 300 {
		w := randomWave(random, 5)
		got, code := impl.TrimWave(w)
		checkWave(t, got, code, waveBy(130, func(time int64) int64 { return degreesAt(w, time) }), impl.OK, "TrimWave", w)
	}
}

// exactMix is the temperature of mixed waves at a time by its definition.
func exactMix(waves [][]impl.Step, flows []int64, time int64) int64 {
	heat := int64(0)
	for i, w := range waves {
		heat += flows[i] * degreesAt(w, time)
	}
	return quotientOf(sumOf(flows), heat)
}

func TestMixWaves(t *testing.T) {
	cold := waveWith([2]int64{0, 6000})
	even, odd := regularWave(12, 2, 10), regularWave(12, 2, 10)
	for i := range odd[1:] {
		odd[i+1].Time--
	}
	long, late := regularWave(impl.MaxSteps, 2, 1), regularWave(impl.MaxSteps, 3, 100)
	cases := []struct {
		waves [][]impl.Step
		flows []int64
		want  []impl.Step
		code  int64
	}{
		{[][]impl.Step{warmWave(), cold}, []int64{1000, 3000}, waveWith([2]int64{0, 6500}, [2]int64{60, 6750}), impl.OK},
		{[][]impl.Step{cold, warmWave()}, []int64{3000, 1000}, waveWith([2]int64{0, 6500}, [2]int64{60, 6750}), impl.OK},
		// A single wave, whatever its flow is.
		{[][]impl.Step{warmWave()}, []int64{1}, warmWave(), impl.OK}, {[][]impl.Step{warmWave()}, []int64{impl.MaxFlow}, warmWave(), impl.OK},
		{[][]impl.Step{restlessWave()}, []int64{3}, waveWith([2]int64{0, 5}, [2]int64{7, -20}, [2]int64{15, 5}), impl.OK}, {[][]impl.Step{long}, []int64{1}, long, impl.OK},
		// Flows of 0 have no weight.
		{[][]impl.Step{warmWave(), cold}, []int64{0, 3000}, cold, impl.OK}, {[][]impl.Step{warmWave(), cold}, []int64{1, 0}, warmWave(), impl.OK},
		{[][]impl.Step{long, late}, []int64{1, 0}, long, impl.OK}, {[][]impl.Step{warmWave(), cold}, []int64{0, 0}, nil, impl.ErrState}, {nil, nil, nil, impl.ErrState},
		// Steps that coincide make one, and changes may cancel one another.
		{[][]impl.Step{warmWave(), warmWave()}, []int64{7, 9}, warmWave(), impl.OK},
		{[][]impl.Step{warmWave(), waveWith([2]int64{0, 9000}, [2]int64{60, 8000})}, []int64{5, 5}, waveWith([2]int64{0, 8500}), impl.OK},
		{[][]impl.Step{warmWave(), waveWith([2]int64{0, 9000}, [2]int64{61, 8000})}, []int64{5, 5}, waveWith([2]int64{0, 8500}, [2]int64{60, 9000}, [2]int64{61, 8500}), impl.OK},
		// Halves are rounded away from 0, and little changes are rounded away.
		{[][]impl.Step{waveWith([2]int64{0, 2}), waveWith([2]int64{0, 1})}, []int64{1, 1}, waveWith([2]int64{0, 2}), impl.OK},
		{[][]impl.Step{waveWith([2]int64{0, -2}), waveWith([2]int64{0, -1})}, []int64{1, 1}, waveWith([2]int64{0, -2}), impl.OK},
		{[][]impl.Step{waveWith([2]int64{0, -2}), waveWith([2]int64{0, -1})}, []int64{1, 2}, waveWith([2]int64{0, -1}), impl.OK},
		{[][]impl.Step{waveWith([2]int64{0, 0}, [2]int64{5, 1}), waveWith([2]int64{0, 0})}, []int64{1, 2}, waveWith([2]int64{0, 0}), impl.OK},
		{[][]impl.Step{waveWith([2]int64{0, impl.MinDegrees}), waveWith([2]int64{0, impl.MaxDegrees})}, []int64{impl.MaxFlow, impl.MaxFlow}, waveWith([2]int64{0, 7500}), impl.OK},
		// There are more steps than allowed, but for those that change nothing.
		{[][]impl.Step{long, late}, []int64{1, 1}, nil, impl.ErrFull}, {[][]impl.Step{even, odd}, []int64{1, 1}, regularWaveOfBoth(), impl.OK},
		{[][]impl.Step{regularWave(impl.MaxSteps, 2, 0), regularWave(impl.MaxSteps, 3, 0)}, []int64{1, 1}, waveWith([2]int64{0, 3000}), impl.OK},
		{slices.Repeat([][]impl.Step{long}, impl.MaxNodes), slices.Repeat([]int64{impl.MaxFlow}, impl.MaxNodes), long, impl.OK},
	}
	for _, c := range cases {
		got, code := impl.MixWaves(c.waves, c.flows)
		checkWave(t, got, code, c.want, c.code, "MixWaves", c.waves, c.flows)
	}
}

// regularWaveOfBoth is what two regular waves with 12 steps make whose steps come in turn.
func regularWaveOfBoth() []impl.Step {
	w := waveWith([2]int64{0, 3000})
	for i := range int64(22) {
		w = append(w, impl.Step{Time: i + 1, Degrees: 3005 + i*5})
	}
	return w
}

func TestMixedWavesLieBetweenTheirParts(t *testing.T) {
	random := rand.New(rand.NewSource(94))
	codes := map[int64]int{}
	for range 400 {
		var waves [][]impl.Step
		var flows []int64
		for range 1 + random.Intn(4) {
			waves = append(waves, randomWave(random, 6))
			flows = append(flows, random.Int63n(impl.MaxFlow+1)>>random.Intn(18))
		}
		want, wantCode := []impl.Step(nil), int64(impl.ErrState)
		if sumOf(flows) > 0 {
			want, wantCode = waveBy(200, func(time int64) int64 { return exactMix(waves, flows, time) }), impl.OK
		}
		if len(want) > impl.MaxSteps {
			want, wantCode = nil, impl.ErrFull
		}
		got, code := impl.MixWaves(waves, flows)
		checkWave(t, got, code, want, wantCode, "MixWaves", waves, flows)
		codes[code]++
		for time := int64(0); code == impl.OK && time < 200; time += 7 {
			var parts []int64
			for _, w := range waves {
				parts = append(parts, degreesAt(w, time))
			}
			if mixed := degreesAt(got, time); mixed < slices.Min(parts) || mixed > slices.Max(parts) {
				t.Errorf("MixWaves(%v, %d) has %d at %d, which is not between its parts", waves, flows, mixed, time)
			}
		}
	}
	if codes[impl.OK] < 100 || codes[impl.ErrFull] < 20 {
		t.Errorf("the codes of mixed waves are %v", codes)
	}
}

func TestMixWavesErrorsInOrder(t *testing.T) {
	many := slices.Repeat([][]impl.Step{warmWave()}, impl.MaxNodes+1)
	cases := []struct {
		waves [][]impl.Step
		flows []int64
		code  int64
	}{
		{[][]impl.Step{warmWave()}, nil, impl.ErrOrder}, {[][]impl.Step{warmWave()}, []int64{0, 0}, impl.ErrOrder}, {nil, []int64{0}, impl.ErrOrder},
		{many, make([]int64, impl.MaxNodes+1), impl.ErrOrder}, {many, slices.Repeat([]int64{5}, impl.MaxNodes+1), impl.ErrOrder},
		{many[1:], make([]int64, impl.MaxNodes), impl.ErrState}, {many, make([]int64, impl.MaxNodes), impl.ErrOrder},
		{many, []int64{-1}, impl.ErrRange}, {nil, []int64{-1}, impl.ErrRange}, {append(many, nil), []int64{-1}, impl.ErrInvalid},
		{append(many, nil), nil, impl.ErrInvalid}, {slices.Repeat([][]impl.Step{warmWave()}, 10000), make([]int64, 10000), impl.ErrOrder},
	}
	for _, c := range cases {
		got, code := impl.MixWaves(c.waves, c.flows)
		checkWave(t, got, code, nil, c.code, "MixWaves", len(c.waves), c.flows)
	}
	for _, n := range beyond(0, impl.MaxFlow) {
		for _, flows := range [][]int64{{n}, {n, 0}, {0, n}, {1, 1, n}} {
			got, code := impl.MixWaves([][]impl.Step{warmWave(), warmWave()}, flows)
			checkWave(t, got, code, nil, impl.ErrRange, "MixWaves", flows)
		}
	}
	for _, w := range invalidWaves() {
		for _, waves := range [][][]impl.Step{{w}, {warmWave(), w}, {w, warmWave(), warmWave()}} {
			for _, flows := range [][]int64{{1, 1}, {-1, 1}, {0, 0}, nil} {
				got, code := impl.MixWaves(waves, flows)
				checkWave(t, got, code, nil, impl.ErrInvalid, "MixWaves", len(waves), flows)
			}
		}
	}
}

func TestThroughPipe(t *testing.T) {
	// A metre that is 20 millimetres wide holds 314 grams.
	short := pipeOf(1, 20, 0)
	longest := pipeOf(impl.MaxLength, impl.MaxWidth, 0)
	most := regularWave(impl.MaxSteps, 10, 10)
	cases := []struct {
		p                    impl.Pipe
		flow                 int64
		w                    []impl.Step
		ground, before, code int64
		want                 []impl.Step
	}{
		{mainPipe(), 5000, warmWave(), 800, 1000, impl.OK, waveWith([2]int64{0, 1000}, [2]int64{786, 7948}, [2]int64{846, 8941})},
		{mainPipe(), -5000, warmWave(), 800, 1000, impl.OK, waveWith([2]int64{0, 1000}, [2]int64{786, 7948}, [2]int64{846, 8941})},
		{mainPipe(), 5000, warmWave(), 800, 7948, impl.OK, waveWith([2]int64{0, 7948}, [2]int64{846, 8941})},
		// What was before stays as it is, however cold the ground is.
		{mainPipe(), 5000, warmWave(), 800, 8000, impl.OK, waveWith([2]int64{0, 8000}, [2]int64{786, 7948}, [2]int64{846, 8941})},
		{mainPipe(), 5000, waveWith([2]int64{0, -500}), 800, -5000, impl.OK, waveWith([2]int64{0, -5000}, [2]int64{786, -491})},
		// There always is a delay, if only of a second.
		{short, impl.MaxFlow, warmWave(), 800, 9, impl.OK, waveWith([2]int64{0, 9}, [2]int64{1, 8000}, [2]int64{61, 9000})},
		{short, 314, warmWave(), 800, 9, impl.OK, waveWith([2]int64{0, 9}, [2]int64{1, 8000}, [2]int64{61, 9000})},
		{short, 313, warmWave(), 800, 9, impl.OK, waveWith([2]int64{0, 9}, [2]int64{2, 8000}, [2]int64{62, 9000})},
		// Slow water becomes as cold as the ground, so both of its steps are the same.
		{mainPipe(), 4, warmWave(), 800, 9, impl.OK, waveWith([2]int64{0, 9}, [2]int64{981750, 800})},
		{mainPipe(), 4, warmWave(), 800, 800, impl.OK, waveWith([2]int64{0, 800})},
		// Times behind the greatest one, and the same if nothing changes then.
		{mainPipe(), 3, warmWave(), 800, 9, impl.ErrState, nil}, {mainPipe(), 1, warmWave(), 800, 1000, impl.ErrState, nil},
		{mainPipe(), 1, warmWave(), 800, 800, impl.OK, waveWith([2]int64{0, 800})}, {longest, 1, warmWave(), 800, 1000, impl.ErrState, nil},
		{longest, -1, waveWith([2]int64{0, 50}), 800, 50, impl.OK, waveWith([2]int64{0, 50})}, {longest, 7854, waveWith([2]int64{0, 50}), 0, 9, impl.OK, waveWith([2]int64{0, 9}, [2]int64{impl.MaxTime, 50})},
		{longest, 7853, waveWith([2]int64{0, 50}), 0, 9, impl.ErrState, nil}, {longest, 7854, waveWith([2]int64{0, 50}, [2]int64{1, 50}), 0, 9, impl.OK, waveWith([2]int64{0, 9}, [2]int64{impl.MaxTime, 50})},
		{longest, 7854, waveWith([2]int64{0, 50}, [2]int64{1, 51}), 0, 9, impl.ErrState, nil},
		// More steps than allowed, but for those that change nothing.
		{short, 1000, most, 800, 0, impl.ErrFull, nil}, {short, 1, most, 800, 3010, impl.ErrFull, nil}, {short, 1000, most[1:], 800, 0, impl.ErrInvalid, nil},
		{longest, 7854, most, 800, 0, impl.ErrState, nil}, {short, 0, most, 800, 0, impl.ErrState, nil}, {short, 0, warmWave(), 800, 8000, impl.ErrState, nil},
	}
	for _, c := range cases {
		got, code := impl.ThroughPipe(c.p, c.flow, c.w, c.ground, c.before)
		checkWave(t, got, code, c.want, c.code, "ThroughPipe", c.p, c.flow, c.w, c.ground, c.before)
	}
	got, code := impl.ThroughPipe(short, 1000, most, 800, 3000)
	want, _ := impl.DelayWave(most, 1, 3000)
	checkWave(t, got, code, want, impl.OK, "ThroughPipe", short, 1000, most, 800, 3000)
}

func TestWavesThroughPipes(t *testing.T) {
	random := rand.New(rand.NewSource(95))
	codes := map[int64]int{}
	for range 2000 {
		p, flow, w := randomPipe(random), randomFlow(random), randomWave(random, 1+random.Int63n(1000))
		ground, before := randomTemperature(random), randomTemperature(random)
		delay, code := impl.DelayOf(p, flow)
		want := waveWith([2]int64{0, before})
		for _, s := range w {
			end, _ := impl.EndTemperature(p, flow, s.Degrees, ground)
			if end != want[len(want)-1].Degrees {
				want = append(want, impl.Step{Time: s.Time + delay, Degrees: end})
			}
		}
		isLate := slices.ContainsFunc(want, func(s impl.Step) bool { return s.Time > impl.MaxTime })
		switch {
		case flow == 0 || isLate:
			code = impl.ErrState
		case len(want) > impl.MaxSteps:
			code = impl.ErrFull
		}
		if code != impl.OK {
			want = nil
		}
		got, gotCode := impl.ThroughPipe(p, flow, w, ground, before)
		checkWave(t, got, gotCode, want, code, "ThroughPipe", p, flow, w, ground, before)
		codes[gotCode]++
	}
	if codes[impl.OK] < 100 || codes[impl.ErrState] < 10 || codes[impl.ErrFull] < 10 {
		t.Errorf("the codes of waves through pipes are %v", codes)
	}
}

func TestFirstWarm(t *testing.T) {
	cases := []struct {
		w                   []impl.Step
		degrees, want, code int64
	}{
		{warmWave(), 8500, 60, impl.OK}, {warmWave(), 9000, 60, impl.OK}, {warmWave(), 9001, 0, impl.ErrNotFound}, {warmWave(), 8000, 0, impl.OK},
		{warmWave(), 8001, 60, impl.OK}, {warmWave(), impl.MinDegrees, 0, impl.OK}, {warmWave(), impl.MaxDegrees, 0, impl.ErrNotFound},
		{restlessWave(), 5, 0, impl.OK}, {restlessWave(), 6, 0, impl.ErrNotFound}, {restlessWave()[2:], 0, 0, impl.ErrInvalid},
		{waveWith([2]int64{0, -30}, [2]int64{4, -20}, [2]int64{9, -20}, [2]int64{12, -10}, [2]int64{13, -40}), -20, 4, impl.OK},
		{waveWith([2]int64{0, -30}, [2]int64{4, -20}, [2]int64{9, -20}, [2]int64{12, -10}, [2]int64{13, -40}), -19, 12, impl.OK},
		{waveWith([2]int64{0, 0}, [2]int64{impl.MaxTime, impl.MaxDegrees}), impl.MaxDegrees, impl.MaxTime, impl.OK},
	}
	for _, c := range cases {
		got, code := impl.FirstWarm(c.w, c.degrees)
		checkCode(t, got, code, c.want, c.code, "FirstWarm", c.w, c.degrees)
	}
}

func TestMeanOf(t *testing.T) {
	half := waveWith([2]int64{0, -1}, [2]int64{1, 0})
	cases := []struct {
		w                 []impl.Step
		from, until, want int64
	}{
		{warmWave(), 0, 120, 8500}, {warmWave(), 30, 75, 8333}, {warmWave(), 0, 60, 8000}, {warmWave(), 0, 61, 8016}, {warmWave(), 59, 60, 8000},
		{warmWave(), 59, 61, 8500}, {warmWave(), 60, 61, 9000}, {warmWave(), 60, impl.MaxTime, 9000}, {warmWave(), 0, impl.MaxTime, 9000},
		{warmWave(), impl.MaxTime - 1, impl.MaxTime, 9000}, {restlessWave(), 0, 20, -5}, {restlessWave(), 3, 7, 5}, {restlessWave(), 8, 9, -20},
		{restlessWave(), 6, 16, -15},
		// Halves are rounded away from 0.
		{half, 0, 2, -1}, {half, 0, 3, 0}, {half, 0, 1, -1}, {half, 1, 2, 0}, {waveWith([2]int64{0, 1}, [2]int64{1, 0}), 0, 2, 1},
		{waveWith([2]int64{0, 1}, [2]int64{1, 0}), 0, 3, 0}, {waveWith([2]int64{0, impl.MaxDegrees}), 0, impl.MaxTime, impl.MaxDegrees},
		{waveWith([2]int64{0, impl.MinDegrees}), 0, impl.MaxTime, impl.MinDegrees}, {waveWith([2]int64{0, 0}, [2]int64{impl.MaxTime, 9}), 0, impl.MaxTime, 0},
	}
	for _, c := range cases {
		got, code := impl.MeanOf(c.w, c.from, c.until)
		checkCode(t, got, code, c.want, impl.OK, "MeanOf", c.w, c.from, c.until)
	}
	random := rand.New(rand.NewSource(96))
	for range 500 {
		w, from := randomWave(random, 5), random.Int63n(100)
		until := from + 1 + random.Int63n(40)
		sum := int64(0)
		for time := from; time < until; time++ {
			sum += degreesAt(w, time)
		}
		got, code := impl.MeanOf(w, from, until)
		checkCode(t, got, code, quotientOf(until-from, sum), impl.OK, "MeanOf", w, from, until)
	}
}

func TestRangeOf(t *testing.T) {
	cases := []struct {
		w    []impl.Step
		want [3]int64
	}{
		{warmWave(), [3]int64{8000, 9000, impl.OK}}, {restlessWave(), [3]int64{-20, 5, impl.OK}}, {waveWith([2]int64{0, -7}), [3]int64{-7, -7, impl.OK}},
		{waveWith([2]int64{0, 1}, [2]int64{1, 3}, [2]int64{2, -2}), [3]int64{-2, 3, impl.OK}}, {waveWith([2]int64{0, 3}, [2]int64{1, 1}, [2]int64{2, 2}), [3]int64{1, 3, impl.OK}},
		{validWaves()[5], [3]int64{impl.MinDegrees, impl.MaxDegrees, impl.OK}},
	}
	for _, w := range invalidWaves() {
		cases = append(cases, struct {
			w    []impl.Step
			want [3]int64
		}{w, [3]int64{0, 0, impl.ErrInvalid}})
	}
	for _, c := range cases {
		least, most, code := impl.RangeOf(c.w)
		if got := [3]int64{least, most, code}; got != c.want {
			t.Errorf("RangeOf(%v) = %d, want %d", c.w[:min(len(c.w), 50)], got, c.want)
		}
	}
}

func TestWavesAreReadBack(t *testing.T) {
	for _, s := range []string{"0:8000 60:9000", "0:0", "0:-5000 1:20000 1000000:-5000", "0:5 7:5 9:6"} {
		w, ok := impl.ReadWave(s)
		if !ok || !impl.ValidWave(w) || impl.WaveText(w) != s {
			t.Errorf("ReadWave(%q) = %v, %v", s, w, ok)
		}
	}
	if got, want := impl.WaveText(restlessWave()), "0:5 3:5 7:-20 8:-20 9:-20 15:5 20:5"; got != want {
		t.Errorf("WaveText = %q, want %q", got, want)
	}
	random := rand.New(rand.NewSource(97))
	waves := validWaves()
	for range 300 {
		waves = append(waves, randomWave(random, 1+random.Int63n(40000)))
	}
	for _, w := range waves {
		if got, ok := impl.ReadWave(impl.WaveText(w)); !slices.Equal(got, w) || !ok {
			t.Errorf("ReadWave(%q) = %v, %v", impl.WaveText(w), got, ok)
		}
	}
	for _, w := range invalidWaves() {
		if got := impl.WaveText(w); got != "" {
			t.Errorf("WaveText(%v) = %q", w[:min(len(w), 50)], got)
		}
	}
}

func TestReadWaveRefuses(t *testing.T) {
	texts := append(extremeTexts(),
		"1:0", "0:20001", "0:-5001", "0:0 0:1", "0", "0:0 5", "0:", ":0", ":", "0:0:0", "0:0 1:", "-1:0", "0:0 2:0 1:0", "0:0 1000001:0", "-1:0 0:0",
		" 0:0", "0:0 ", "0:0  1:1", "0:0\t1:1", "0:0\n", "0:0,1:1", "0,0 1,1", "00:0", "0:00", "0:-0", "0:+1", "-0:0", "0: 0", "0 :0", "0:0 01:1", "0:0 x", "0:x",
		impl.WaveText(regularWave(impl.MaxSteps, 1, 1))+" 24:0", impl.WaveText(regularWave(impl.MaxSteps, 1, 1))+" x", "0:0 "+strings.Repeat("1:0 ", 1000), "0:9999999999999999999")
	for _, s := range texts {
		if w, ok := impl.ReadWave(s); w != nil || ok {
			t.Errorf("ReadWave(%q) = %v, %v", s, w, ok)
		}
	}
}

func TestWaveFunctionsRefuse(t *testing.T) {
	// Each number may be a time or a temperature, and none of these is a time.
	type numbers struct{ time, later, degrees, ground, flow int64 }
	good := numbers{10, 20, 30, 40, 50}
	one := func(value, code int64) outcome { return outcome{[]int64{value}, code} }
	many := func(w []impl.Step, code int64) outcome { return outcome{[]int64{int64(len(w))}, code} }
	calls := []struct {
		name, takes string
		of          func(w []impl.Step, n numbers) outcome
	}{
		{"WaveAt", "time", func(w []impl.Step, n numbers) outcome { return one(impl.WaveAt(w, n.time)) }},
		{"DelayWave", "time degrees", func(w []impl.Step, n numbers) outcome { return many(impl.DelayWave(w, n.time, n.degrees)) }},
		{"TrimWave", "", func(w []impl.Step, _ numbers) outcome { return many(impl.TrimWave(w)) }},
		{"FirstWarm", "degrees", func(w []impl.Step, n numbers) outcome { return one(impl.FirstWarm(w, n.degrees)) }},
		{"MeanOf", "time later", func(w []impl.Step, n numbers) outcome { return one(impl.MeanOf(w, n.time, n.later)) }},
		{"ThroughPipe", "degrees ground flow", func(w []impl.Step, n numbers) outcome {
			return many(impl.ThroughPipe(mainPipe(), n.flow, w, n.ground, n.degrees))
		}},
	}
	wrong := map[string][]numbers{}
	add := func(name string, list []int64, set func(*numbers, int64)) {
		for _, number := range list {
			n := good
			set(&n, number)
			wrong[name] = append(wrong[name], n)
		}
	}
	degrees := beyond(impl.MinDegrees, impl.MaxDegrees)
	add("time", beyond(0, impl.MaxTime), func(n *numbers, number int64) { n.time = number })
	add("later", append(beyond(11, impl.MaxTime), 9, 0), func(n *numbers, number int64) { n.later = number })
	add("degrees", degrees, func(n *numbers, number int64) { n.degrees = number })
	add("ground", degrees, func(n *numbers, number int64) { n.ground = number })
	add("flow", beyond(-impl.MaxFlow, impl.MaxFlow), func(n *numbers, number int64) { n.flow = number })
	for _, c := range calls {
		for name, list := range wrong {
			for _, n := range list {
				if !strings.Contains(c.takes, name) {
					continue
				}
				for _, w := range validWaves() {
					checkFailed(t, c.of(w, n), impl.ErrRange, c.name, w, n)
				}
				for _, w := range invalidWaves()[:5] {
					checkFailed(t, c.of(w, n), impl.ErrInvalid, c.name, w, n)
				}
			}
		}
		for _, w := range invalidWaves() {
			checkFailed(t, c.of(w, good), impl.ErrInvalid, c.name, len(w), good)
		}
	}
	// No time comes after the greatest one.
	for _, until := range []int64{impl.MaxTime, impl.MaxTime + 1, 0, math.MinInt64, math.MaxInt64} {
		got, code := impl.MeanOf(warmWave(), impl.MaxTime, until)
		checkCode(t, got, code, 0, impl.ErrRange, "MeanOf", impl.MaxTime, until)
	}
}

func TestThroughPipeErrorsInOrder(t *testing.T) {
	for _, p := range invalidPipes() {
		for _, flow := range []int64{5000, 0, impl.MaxFlow + 1} {
			for _, w := range [][]impl.Step{warmWave(), nil} {
				got, code := impl.ThroughPipe(p, flow, w, 20001, 20001)
				checkWave(t, got, code, nil, impl.ErrInvalid, "ThroughPipe", p, flow, w)
			}
		}
	}
	// A number out of its range counts before a flow of 0, and this before all that the result would be.
	for _, degrees := range beyond(impl.MinDegrees, impl.MaxDegrees) {
		got, code := impl.ThroughPipe(mainPipe(), 0, warmWave(), degrees, 0)
		checkWave(t, got, code, nil, impl.ErrRange, "ThroughPipe", 0, degrees)
		got, code = impl.ThroughPipe(mainPipe(), 0, warmWave(), 0, degrees)
		checkWave(t, got, code, nil, impl.ErrRange, "ThroughPipe", 0, degrees)
	}
	got, code := impl.ThroughPipe(mainPipe(), 0, waveWith([2]int64{0, 800}), 800, 800)
	checkWave(t, got, code, nil, impl.ErrState, "ThroughPipe", 0)
}

// The other tests take these limits from the program, so they are written out.
func TestConstantsOfWaves(t *testing.T) {
	if impl.MaxSteps != 24 || impl.MaxTime != 1000000 {
		t.Errorf("the constants are %d and %d", impl.MaxSteps, impl.MaxTime)
	}
}
