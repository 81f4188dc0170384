package tests

import (
	"fmt"
	"reflect"
	"slices"
	"testing"

	"loop.example/g01011/impl"
)

// Promise 1 for chapter 8.

// pumpNumbers are the extreme numbers, and those at the limits of pumps.
func pumpNumbers() []int64 {
	return append(extremeNumbers(), leastSpeed-1, leastSpeed, 1000, greatestSpeed, greatestSpeed+1,
		impl.MaxFlow, impl.MaxFlow+1, impl.MaxHead, impl.MaxHead+1, coefficientLimit, coefficientLimit+1, impl.MaxBudget, impl.MaxBudget+1)
}

// resultsOfPump calls every function of a pump with all the numbers.
func resultsOfPump(p impl.Pump, numbers []int64) []any {
	all := []any{impl.ValidPump(p), impl.PumpText(p), impl.SamePump(p, p)}
	keep := func(results ...any) { all = append(all, results...) }
	row, rowCode := impl.PumpsInRow(p, p)
	keep(row, rowCode)
	for _, a := range numbers {
		slow, slowCode := impl.SlowPump(p, a)
		keep(slow, slowCode, codedOf(impl.HeadAt(p, a)))
		for _, b := range numbers {
			flow, head, code := impl.WorkingFlow(p, a, b)
			keep(outcome{[]int64{flow, head}, code}, codedOf(impl.ElectricPower(p, a, b)))
			if within := a <= impl.MaxHead && a >= 0; !within || b < 3 {
				keep(codedOf(impl.LeastSpeed(p, a, b, a)), codedOf(impl.LeastSpeed(p, b, a, b)))
			}
		}
	}
	return all
}

// resultsOfPumpLists calls the function of a list of pumps with all the numbers.
func resultsOfPumpLists(list []impl.Pump, numbers []int64) []any {
	var all []any
	for _, a := range numbers {
		for _, b := range numbers {
			for _, figures := range [][4]int64{{a, b, 1, 600}, {1, a, b, 600}, {1, 1, a, b}, {b, 1, 1, a}} {
				set, sum, code := impl.CheapestPumps(list, figures[0], figures[1], figures[2], figures[3])
				all = append(all, outcome{append(slices.Clone(set), sum), code})
			}
		}
	}
	return all
}

func resultsOfPumps() []any {
	var all []any
	for _, p := range append(validPumps(), invalidPumps()...) {
		all = append(all, resultsOfPump(p, pumpNumbers())...)
	}
	for _, list := range [][]impl.Pump{nil, {}, pumpsWith(1, 2, 3, 4, 5, 6, 7, 8), {mainPump(), steppedPump()}, {{}}, make([]impl.Pump, 9)} {
		all = append(all, resultsOfPumpLists(list, pumpNumbers())...)
	}
	for _, a := range pumpNumbers() {
		for _, b := range pumpNumbers() {
			all = append(all, codedOf(impl.SystemHead(a, b, a)), codedOf(impl.SystemHead(a, a, b)))
		}
	}
	for _, s := range append(extremeTexts(), "main 0:100000 10000:0", "a 0:0 1:0", "a 0:0 1:1") {
		p, ok := impl.ReadPump(s)
		all = append(all, p, ok)
	}
	return all
}

func TestPumpsReturnAlwaysTheSame(t *testing.T) {
	results := resultsOfPumps()
	if !reflect.DeepEqual(results, resultsOfPumps()) {
		t.Error("equal arguments have given different results")
	}
	checkCodesComeAlone(t, results)
}

func TestPumpsMayBeCalledAtOnce(t *testing.T) {
	const workers = 4
	p, list, numbers := steppedPump(), pumpsWith(5, 4, 3, 2, 1), pumpNumbers()
	results := make(chan []any, workers)
	for range workers {
		go func() {
			results <- append(resultsOfPump(p, numbers), resultsOfPumpLists(list, numbers)...)
		}()
	}
	first := <-results
	for range workers - 1 {
		if !reflect.DeepEqual(first, <-results) {
			t.Error("calls at the same time have given different results")
		}
	}
}

// spaciousPump returns a copy of a pump whose lists have unused capacity, and a function that shows all of its memory.
func spaciousPump(p impl.Pump) (impl.Pump, func() string) {
	curve, whole := spacious(p.Curve, []int64{71, 72})
	var points [][]int64
	for i, c := range p.Curve {
		point, wholePoint := spacious(c, 77)
		curve[i] = point
		points = append(points, wholePoint)
	}
	return impl.Pump{Id: p.Id, Curve: curve}, func() string { return fmt.Sprint(whole, points) }
}

func TestPumpsKeepTheirArguments(t *testing.T) {
	numbers := []int64{0, 1, 9, 500, 1000, 1100, impl.MaxFlow}
	for _, p := range append(validPumps(), invalidPumps()...) {
		given, memory := spaciousPump(p)
		spare, memoryOfSpare := spaciousPump(steadyPump("zz", 5, 5))
		list, whole := spacious([]impl.Pump{given, spare}, mainPump())
		before := memory() + memoryOfSpare() + fmt.Sprint(whole)
		resultsOfPump(given, numbers)
		resultsOfPumpLists(list, numbers)
		impl.PumpsInRow(given, spare)
		impl.PumpsInRow(spare, given)
		if memory()+memoryOfSpare()+fmt.Sprint(whole) != before {
			t.Errorf("a function has changed %v", p)
		}
	}
}

func TestResultsOfPumpsAreNewMemory(t *testing.T) {
	results := func() []impl.Pump {
		slow, _ := impl.SlowPump(steppedPump(), 1000)
		row, _ := impl.PumpsInRow(steppedPump(), steadyPump("b", 0, 7000))
		read, _ := impl.ReadPump(impl.PumpText(steppedPump()))
		return []impl.Pump{slow, row, read}
	}
	for k := range results() {
		for i := range steppedPump().Curve {
			// A point may share no memory with another one either, even with its unused capacity.
			all := results()
			overwrite(all[k].Curve[i], -9)
			for j, c := range all[k].Curve {
				if j != i && !slices.Equal(c, steppedPump().Curve[j]) {
					t.Errorf("the points %d and %d of the result %d share memory", i, j, k)
				}
			}
			overwrite(all[k].Curve, nil)
		}
		if again := results()[k]; !impl.SamePump(again, steppedPump()) {
			t.Errorf("the result %d is %v after it was changed", k, again)
		}
	}
	p := steppedPump()
	slow, _ := impl.SlowPump(p, 1000)
	row, _ := impl.PumpsInRow(p, p)
	for _, result := range []impl.Pump{slow, row} {
		for _, c := range result.Curve {
			overwrite(c, -9)
		}
		overwrite(result.Curve, nil)
	}
	if !impl.SamePump(p, steppedPump()) {
		t.Errorf("a result shares memory with %v", p)
	}
	set, _, _ := impl.CheapestPumps(pumpsWith(5, 4, 3), 8, 0, 0, 100)
	overwrite(set, -9)
	again, _, code := impl.CheapestPumps(pumpsWith(5, 4, 3), 8, 0, 0, 100)
	checkIndices(t, again, code, []int64{0, 2}, "CheapestPumps", "after its result was changed")
}

func TestPumpsTakeNilAndEmptyAlike(t *testing.T) {
	numbers := []int64{0, 1, 500, 1000}
	a := append(resultsOfPump(impl.Pump{Id: "a"}, numbers), resultsOfPumpLists(nil, numbers)...)
	b := append(resultsOfPump(impl.Pump{Id: "a", Curve: [][]int64{}}, numbers), resultsOfPumpLists([]impl.Pump{}, numbers)...)
	if fmt.Sprint(a) != fmt.Sprint(b) {
		t.Errorf("the results are %v for nil, and %v for empty lists", a, b)
	}
	a = resultsOfPump(impl.Pump{Id: "a", Curve: [][]int64{nil, {1, 2}}}, numbers)
	b = resultsOfPump(impl.Pump{Id: "a", Curve: [][]int64{{}, {1, 2}}}, numbers)
	if fmt.Sprint(a) != fmt.Sprint(b) {
		t.Errorf("the results are %v for a point that is nil, and %v for an empty one", a, b)
	}
}
