package tests

import (
	"reflect"
	"slices"
	"testing"

	"loop.example/g01011/impl"
)

// Promise 1 for chapters 2 and 3.

// limitNumbers are the extreme numbers, and those at the limits of water and pipes.
func limitNumbers() []int64 {
	return append(extremeNumbers(),
		impl.MaxWater, impl.MaxWater+1, impl.MinSteam, impl.MinSteam-1, impl.MaxSteam, impl.MaxSteam+1,
		impl.MaxFlow, impl.MaxFlow+1, -impl.MaxFlow, -impl.MaxFlow-1, impl.MaxPressure, impl.MaxPressure+1,
		impl.MinDegrees, impl.MinDegrees-1, impl.MaxDegrees, impl.MaxDegrees+1, 200000, -200000, 1000000000)
}

func extremePipes() []impl.Pipe {
	return append(invalidPipes(), mainPipe(), pipeOf(1, 20, 0), pipeOf(10000, 20, 5000), pipeOf(10000, 1000, 5000))
}

// coded is a result with a code.
type coded struct{ value, code int64 }

func codedOf(value, code int64) coded { return coded{value, code} }

// resultsOfWater calls the functions of chapter 2 with all the numbers.
func resultsOfWater(numbers []int64) []coded {
	var all []coded
	for _, a := range numbers {
		all = append(all, codedOf(impl.WaterDensity(a)), codedOf(impl.BoilingAt(a)), codedOf(impl.SteamPressure(a)))
		for _, b := range numbers {
			all = append(all, codedOf(impl.MarginTo(a, b)), codedOf(impl.HeadPressure(a, b)), codedOf(impl.EnergyOf(a, b)),
				codedOf(impl.MixWater([]int64{a, 1}, []int64{b, a})))
			for _, c := range numbers {
				all = append(all, codedOf(impl.HeatPower(a, b, c)), codedOf(impl.FlowForPower(a, b, c)),
					codedOf(impl.ExpandedVolume(a, b, c)))
			}
		}
	}
	return all
}

// resultsOfPipes calls the functions of chapter 3 that have a number as result with all the pipes and numbers.
func resultsOfPipes(pipes []impl.Pipe, numbers []int64) []coded {
	var all []coded
	for _, a := range numbers {
		for _, b := range numbers {
			for _, p := range pipes {
				for _, c := range pipeCalls(a, b, b, a) {
					all = append(all, codedOf(c.of(p)))
				}
				all = append(all, codedOf(impl.EndTemperature(p, a, b, 800)))
			}
			all = append(all, codedOf(impl.HeatFlow(a, b, 0)), codedOf(impl.HeatFlow(1, a, b)))
		}
	}
	return all
}

// textsOfWater are the results of both chapters that are texts or read from texts.
func textsOfWater(numbers []int64, pipes []impl.Pipe) []any {
	var all []any
	for _, n := range numbers {
		all = append(all, impl.DegreesText(n))
	}
	for _, p := range pipes {
		turned, code := impl.TurnPipe(p)
		all = append(all, impl.ValidPipe(p), turned, code, impl.PipeText(p))
	}
	for _, s := range append(extremeTexts(), "80.00", "-0.05", "main 0,1,500,100,300", "a 0,0,1,20,0") {
		degrees, isDegrees := impl.ReadDegrees(s)
		p, isPipe := impl.ReadPipe(s)
		all = append(all, degrees, isDegrees, p, isPipe)
	}
	return all
}

func TestWaterAndPipesReturnAlwaysTheSame(t *testing.T) {
	numbers, pipes := limitNumbers(), extremePipes()
	water, ofPipes := resultsOfWater(numbers), resultsOfPipes(pipes, numbers)
	if !slices.Equal(water, resultsOfWater(numbers)) || !slices.Equal(ofPipes, resultsOfPipes(pipes, numbers)) {
		t.Error("equal arguments have given different results")
	}
	if !reflect.DeepEqual(textsOfWater(numbers, pipes), textsOfWater(numbers, pipes)) {
		t.Error("equal arguments have given different texts")
	}
	for _, result := range append(water, ofPipes...) {
		if result.code != impl.OK && result.value != 0 {
			t.Errorf("a result of %d comes with the code %d", result.value, result.code)
		}
	}
}

func TestMixWaterKeepsItsArguments(t *testing.T) {
	for _, n := range []int{0, 1, 3, 64, 65} {
		// The unused capacity of a slice belongs to the argument too.
		flows, temperatures := make([]int64, n+3), make([]int64, n+3)
		for i := range flows {
			flows[i], temperatures[i] = int64(7*i%5), int64(18000-11*i)
		}
		wholeFlows, wholeTemperatures := slices.Clone(flows), slices.Clone(temperatures)
		impl.MixWater(flows[:n], temperatures[:n])
		if !slices.Equal(flows, wholeFlows) || !slices.Equal(temperatures, wholeTemperatures) {
			t.Errorf("MixWater has changed its %d flows or temperatures", n)
		}
	}
}
