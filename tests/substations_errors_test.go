package tests

import (
	"slices"
	"strings"
	"testing"

	"loop.example/g01011/impl"
)

// Which errors the functions of chapter 12 return, and in which order.

// heatFigures are the numbers that these functions take beside substations.
type heatFigures struct{ primary, back, flow, load int64 }

// substationCall is a function of a substation that takes some of the figures.
type substationCall struct {
	name, takes string
	of          func(x impl.Substation, f heatFigures) outcome
}

func substationCalls() []substationCall {
	number := func(value, code int64) outcome { return outcome{[]int64{value}, code} }
	return []substationCall{
		{"PrimaryFlow", "primary load", func(x impl.Substation, f heatFigures) outcome {
			return number(impl.PrimaryFlow(x, f.primary, f.load))
		}},
		{"ReturnAt", "primary flow", func(x impl.Substation, f heatFigures) outcome {
			return number(impl.ReturnAt(x, f.primary, f.flow))
		}},
		{"MeanDifference", "primary back", func(x impl.Substation, f heatFigures) outcome {
			return number(impl.MeanDifference(x, f.primary, f.back))
		}},
		{"PowerAt", "primary flow", func(x impl.Substation, f heatFigures) outcome {
			return number(impl.PowerAt(x, f.primary, f.flow))
		}},
		{"LeastTransfer", "primary load", func(x impl.Substation, f heatFigures) outcome {
			return number(impl.LeastTransfer(x, f.primary, f.load))
		}},
		{"LeastPrimary", "load flow", func(x impl.Substation, f heatFigures) outcome {
			return number(impl.LeastPrimary(x, f.load, f.flow))
		}},
	}
}

// listCall is a function of several substations, which takes primary water and loads.
type listCall struct {
	name string
	of   func(list []impl.Substation, primary int64, loads []int64) outcome
}

func listCalls() []listCall {
	return []listCall{
		{"ReturnMix", func(list []impl.Substation, primary int64, loads []int64) outcome {
			value, code := impl.ReturnMix(list, primary, loads)
			return outcome{[]int64{value}, code}
		}},
		{"WeakSubstations", func(list []impl.Substation, primary int64, loads []int64) outcome {
			values, code := impl.WeakSubstations(list, primary, loads)
			return outcome{values, code}
		}},
	}
}

// ordinaryHeat is in all ranges, and enough for all substations that are not warmer than 9000.
func ordinaryHeat() heatFigures {
	return heatFigures{primary: 9000, back: 5000, flow: 1000, load: 100}
}

// wrongHeat are figures with one number out of its range, named by this number.
func wrongHeat() map[string][]heatFigures {
	wrong := make(map[string][]heatFigures)
	add := func(name string, numbers []int64, set func(*heatFigures, int64)) {
		for _, number := range numbers {
			f := ordinaryHeat()
			set(&f, number)
			wrong[name] = append(wrong[name], f)
		}
	}
	// Water may not go back warmer than it comes, even if it is a temperature of water.
	add("primary", beyond(impl.MinWater, impl.MaxWater), func(f *heatFigures, n int64) { f.primary = n })
	add("back", append(beyond(impl.MinWater, impl.MaxWater), 9001, impl.MaxWater), func(f *heatFigures, n int64) { f.back = n })
	add("flow", append(beyond(0, impl.MaxFlow), -1000), func(f *heatFigures, n int64) { f.flow = n })
	add("load", append(beyond(0, impl.MaxPressure), -100), func(f *heatFigures, n int64) { f.load = n })
	return wrong
}

// worstHeat has all numbers out of their ranges.
func worstHeat() heatFigures {
	return heatFigures{impl.MaxWater + 1, -1, impl.MaxFlow + 1, impl.MaxPressure + 1}
}

func TestSubstationsRefuseInvalidOnesFirst(t *testing.T) {
	for _, x := range invalidSubstations() {
		for _, c := range substationCalls() {
			for _, f := range []heatFigures{{}, ordinaryHeat(), worstHeat(), {load: impl.MaxPressure}} {
				checkFailed(t, c.of(x, f), impl.ErrInvalid, c.name, x, f)
			}
		}
	}
	for _, list := range invalidSubstationLists() {
		for _, c := range listCalls() {
			shown := list[:min(len(list), 20)]
			for _, primary := range []int64{9000, -1, 0} {
				checkFailed(t, c.of(list, primary, make([]int64, len(list))), impl.ErrInvalid, c.name, shown, primary)
				checkFailed(t, c.of(list, primary, nil), impl.ErrInvalid, c.name, shown, primary)
				checkFailed(t, c.of(list, primary, alike(impl.MaxPressure, len(list))), impl.ErrInvalid, c.name, shown, primary)
			}
		}
	}
}

func TestSubstationsRefuseNumbersOutOfRange(t *testing.T) {
	// The last one takes water back that is warmer than the primary water.
	for _, x := range []impl.Substation{mainSubstation(), substationOf(1, 1, 0), substationOf(impl.MaxTransfer, impl.MaxWater, 9500)} {
		for _, c := range substationCalls() {
			checkFailed(t, c.of(x, worstHeat()), impl.ErrRange, c.name, x)
			ordinary := c.of(x, ordinaryHeat())
			for name, wrong := range wrongHeat() {
				for _, f := range wrong {
					if slices.Contains(strings.Fields(c.takes), name) {
						checkFailed(t, c.of(x, f), impl.ErrRange, c.name, x, f)
						continue
					}
					// What a function does not take makes no difference.
					if got := c.of(x, f); got.code != ordinary.code || !slices.Equal(got.values, ordinary.values) {
						t.Errorf("%s(%+v, %+v) = %+v, without the wrong number %+v", c.name, x, f, got, ordinary)
					}
				}
			}
		}
	}
}

func TestSubstationsRefuseLoadsThatAreNotAsStated(t *testing.T) {
	lists := append(validSubstationLists(), coldAndHot())
	for _, list := range lists {
		for _, c := range listCalls() {
			for _, primary := range beyond(impl.MinWater, impl.MaxWater) {
				checkFailed(t, c.of(list, primary, make([]int64, len(list))), impl.ErrRange, c.name, list, primary)
			}
			for _, loads := range wrongLists(len(list), 0, impl.MaxPressure) {
				for _, primary := range []int64{9000, 0} {
					checkFailed(t, c.of(list, primary, loads), impl.ErrRange, c.name, list, primary, len(loads))
				}
			}
			// A load that no flow brings is told of later than another one that is not as stated.
			for place := range list {
				loads := alike(impl.MaxPressure, len(list))
				loads[place]++
				checkFailed(t, c.of(list, 9000, loads), impl.ErrRange, c.name, list, loads)
			}
		}
	}
}

// Numbers just at their limits are taken by all functions.
func TestSubstationsTakeTheirLimits(t *testing.T) {
	for _, x := range append(validSubstations(), substationOf(impl.MaxTransfer, 2, 1)) {
		for _, f := range []heatFigures{
			{impl.MinWater, impl.MinWater, 0, 0}, {impl.MaxWater, impl.MinWater, impl.MaxFlow, 0}, {impl.MaxWater, impl.MaxWater, 0, impl.MaxPressure},
			{impl.MinWater, impl.MinWater, impl.MaxFlow, impl.MaxPressure}, {x.Return, x.Return, impl.MaxFlow, impl.MaxPressure},
		} {
			for _, c := range substationCalls() {
				want := int64(impl.OK)
				isCold := c.name == "ReturnAt" && f.primary < x.Return
				isTooMuch := f.load > 0 && slices.Contains(strings.Fields(c.takes), "load")
				if isCold || isTooMuch {
					want = impl.ErrState
				}
				if got := c.of(x, f); got.code != want {
					t.Errorf("%s(%+v, %+v) gives %d, want %d", c.name, x, f, got.code, want)
				}
			}
		}
	}
}
