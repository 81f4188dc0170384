package tests

import (
	"fmt"
	"reflect"
	"slices"
	"testing"

	"loop.example/g01011/impl"
)

// Promise 1 for chapter 9.

// waveNumbers are the extreme numbers, and those at the limits of waves.
func waveNumbers() []int64 {
	return append(extremeNumbers(), 60, impl.MaxTime-60, impl.MaxTime, impl.MaxTime+1, impl.MinDegrees, impl.MinDegrees-1,
		impl.MaxDegrees, impl.MaxDegrees+1, impl.MaxFlow, impl.MaxFlow+1, -impl.MaxFlow, -impl.MaxFlow-1)
}

// waved is a wave with a code.
type waved struct {
	wave []impl.Step
	code int64
}

func wavedOf(w []impl.Step, code int64) waved { return waved{w, code} }

// resultsOfWave calls every function of a wave with all the numbers.
func resultsOfWave(w []impl.Step, pipes []impl.Pipe, numbers []int64) []any {
	least, most, code := impl.RangeOf(w)
	all := []any{impl.ValidWave(w), impl.WaveText(w), impl.SameWave(w, w), wavedOf(impl.TrimWave(w)), outcome{[]int64{least, most}, code}}
	keep := func(results ...any) { all = append(all, results...) }
	for _, a := range numbers {
		keep(codedOf(impl.WaveAt(w, a)), codedOf(impl.FirstWarm(w, a)))
		for _, b := range numbers {
			keep(codedOf(impl.MeanOf(w, a, b)), wavedOf(impl.DelayWave(w, a, b)))
			for _, p := range pipes {
				keep(wavedOf(impl.ThroughPipe(p, a, w, b, 5)), wavedOf(impl.ThroughPipe(p, 77, w, a, b)))
			}
		}
	}
	return all
}

// resultsOfMixes mixes waves with all lists of flows.
func resultsOfMixes(waves [][]impl.Step, lists [][]int64) []any {
	var all []any
	for _, flows := range lists {
		all = append(all, wavedOf(impl.MixWaves(waves, flows)))
	}
	return all
}

func resultsOfWaves() []any {
	var all []any
	pipes := []impl.Pipe{mainPipe(), pipeOf(1, 20, 0), pipeOf(impl.MaxLength, impl.MaxWidth, impl.MaxLoss), {}}
	for _, w := range append(validWaves(), invalidWaves()...) {
		all = append(all, resultsOfWave(w, pipes, waveNumbers())...)
	}
	lists := append(extremeLists(), []int64{1}, []int64{1, 2}, []int64{7, 0, 9}, slices.Repeat([]int64{impl.MaxFlow}, len(validWaves())))
	for _, waves := range [][][]impl.Step{nil, {}, {nil}, {{}}, {warmWave()}, {warmWave(), restlessWave()}, validWaves(), invalidWaves(), make([][]impl.Step, 10000)} {
		all = append(all, resultsOfMixes(waves, lists)...)
	}
	for _, s := range append(extremeTexts(), "0:5 7:5 9:6", "0:-5000", "0:5 0:6") {
		w, ok := impl.ReadWave(s)
		all = append(all, w, ok)
	}
	return all
}

func TestWavesReturnAlwaysTheSame(t *testing.T) {
	results := resultsOfWaves()
	if !reflect.DeepEqual(results, resultsOfWaves()) {
		t.Error("equal arguments have given different results")
	}
	checkCodesComeAlone(t, results)
	for _, result := range results {
		if r, ok := result.(waved); ok && impl.ValidWave(r.wave) != (r.code == impl.OK) || ok && r.code != impl.OK && len(r.wave) > 0 {
			t.Errorf("%v comes with the code %d", r.wave, r.code)
		}
	}
}

func TestWavesMayBeCalledAtOnce(t *testing.T) {
	const workers = 4
	w, pipes, numbers := restlessWave(), []impl.Pipe{mainPipe()}, waveNumbers()
	waves, lists := [][]impl.Step{w, warmWave(), w}, [][]int64{{1, 2, 3}, {9, 0, 0}, {5}}
	results := make(chan []any, workers)
	for range workers {
		go func() {
			results <- append(resultsOfWave(w, pipes, numbers), resultsOfMixes(waves, lists)...)
		}()
	}
	first := <-results
	for range workers - 1 {
		if !reflect.DeepEqual(first, <-results) {
			t.Error("calls at the same time have given different results")
		}
	}
}

func TestWavesKeepTheirArguments(t *testing.T) {
	pipes, numbers := []impl.Pipe{mainPipe(), pipeOf(1, 20, 0)}, []int64{0, 1, 5, 60, 5000, impl.MaxTime}
	for _, w := range append(validWaves(), invalidWaves()...) {
		given, whole := spacious(w, impl.Step{Time: 77, Degrees: 78})
		other, wholeOther := spacious(restlessWave(), impl.Step{Time: 77, Degrees: 78})
		waves, wholeWaves := spacious([][]impl.Step{given, other}, nil)
		flows, wholeFlows := spacious([]int64{3, 5}, 79)
		before := fmt.Sprint(whole, wholeOther, wholeWaves, wholeFlows)
		resultsOfWave(given, pipes, numbers)
		resultsOfMixes(waves, [][]int64{flows, flows[:1], flows[:0]})
		if fmt.Sprint(whole, wholeOther, wholeWaves, wholeFlows) != before {
			t.Errorf("a function has changed %v", w)
		}
	}
}

func TestResultsOfWavesAreNewMemory(t *testing.T) {
	// None of these calls changes its wave, so a careless function might return it as it is.
	results := func(w []impl.Step) []waved {
		read, _ := impl.ReadWave(impl.WaveText(w))
		return []waved{
			wavedOf(impl.TrimWave(w)), wavedOf(impl.DelayWave(w, 0, 5)), wavedOf(impl.MixWaves([][]impl.Step{w}, []int64{1})),
			wavedOf(impl.MixWaves([][]impl.Step{w, w}, []int64{1, 0})), {read, impl.OK},
			wavedOf(impl.ThroughPipe(pipeOf(1, 20, 0), 1000, w, 5, 5)),
		}
	}
	w := warmWave()
	before := fmt.Sprint(results(w))
	for _, r := range results(w) {
		overwrite(r.wave, impl.Step{Time: -9})
	}
	if !slices.Equal(w, warmWave()) || fmt.Sprint(results(w)) != before {
		t.Errorf("a result shares memory with %v", w)
	}
}

func TestWavesTakeNilAndEmptyAlike(t *testing.T) {
	pipes, numbers := []impl.Pipe{mainPipe()}, []int64{0, 1, 60}
	lists, emptyLists := [][]int64{nil, {1}}, [][]int64{{}, {1}}
	a := append(resultsOfWave(nil, pipes, numbers), resultsOfMixes(nil, lists)...)
	b := append(resultsOfWave([]impl.Step{}, pipes, numbers), resultsOfMixes([][]impl.Step{}, emptyLists)...)
	if fmt.Sprint(a) != fmt.Sprint(b) {
		t.Errorf("the results are %v for nil, and %v for empty lists", a, b)
	}
	a, b = resultsOfMixes([][]impl.Step{nil}, lists), resultsOfMixes([][]impl.Step{{}}, emptyLists)
	if fmt.Sprint(a) != fmt.Sprint(b) {
		t.Errorf("the results are %v for a wave that is nil, and %v for an empty one", a, b)
	}
}
