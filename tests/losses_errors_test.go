package tests

import (
	"slices"
	"strings"
	"testing"

	"loop.example/g01011/impl"
)

// Which errors the functions of chapter 10 return, and in which order.

// lossFigures are the numbers that these functions take beside a pipe or a network.
type lossFigures struct {
	thickness, conductivity, price, heat, years int64
	count, loss, money, budget, warm, ground    int64
}

// lossLists are the lists that they take.
type lossLists struct{ warms, grounds, pipes, costs []int64 }

// coatCall is a function of a pipe that takes some of the figures.
type coatCall struct {
	name, takes string
	of          func(p impl.Pipe, f lossFigures) outcome
}

func coatCalls() []coatCall {
	number := func(value, code int64) outcome { return outcome{[]int64{value}, code} }
	pair := func(a, b, code int64) outcome { return outcome{[]int64{a, b}, code} }
	return []coatCall{
		{"RangeLoss", "warm ground", func(p impl.Pipe, f lossFigures) outcome { return number(impl.RangeLoss(p, f.warm, f.ground)) }},
		{"CoatCost", "thickness price", func(p impl.Pipe, f lossFigures) outcome { return number(impl.CoatCost(p, f.thickness, f.price)) }},
		{"BestThickness", "conductivity price heat years warm ground", func(p impl.Pipe, f lossFigures) outcome {
			return pair(impl.BestThickness(p, f.conductivity, f.price, f.heat, f.years, f.warm, f.ground))
		}},
	}
}

// lossCall is a function of a network that takes some of the figures and lists.
type lossCall struct {
	name, takes string
	of          func(n impl.Network, f lossFigures, l lossLists) outcome
}

func lossCalls() []lossCall {
	list := func(values []int64, code int64) outcome { return outcome{values, code} }
	number := func(value, code int64) outcome { return outcome{[]int64{value}, code} }
	return []lossCall{
		{"NetworkLoss", "warm ground", func(n impl.Network, f lossFigures, _ lossLists) outcome {
			return number(impl.NetworkLoss(n, f.warm, f.ground))
		}},
		{"LossShares", "warm ground", func(n impl.Network, f lossFigures, _ lossLists) outcome {
			return list(impl.LossShares(n, f.warm, f.ground))
		}},
		{"YearLoss", "warms grounds", func(n impl.Network, _ lossFigures, l lossLists) outcome {
			return number(impl.YearLoss(n, l.warms, l.grounds))
		}},
		{"WorstPipes", "count", func(n impl.Network, f lossFigures, _ lossLists) outcome {
			return list(impl.WorstPipes(n, f.count))
		}},
		{"RenewPipes", "pipes loss", func(n impl.Network, f lossFigures, l lossLists) outcome {
			renewed, code := impl.RenewPipes(n, l.pipes, f.loss)
			return outcome{numbersOf(renewed), code}
		}},
		{"BestRenewal", "costs loss money warm ground budget", func(n impl.Network, f lossFigures, l lossLists) outcome {
			set, loss, code := impl.BestRenewal(n, l.costs, f.loss, f.money, f.warm, f.ground, f.budget)
			return outcome{append(slices.Clone(set), loss), code}
		}},
	}
}

// numbersOf returns numbers that are all 0 only for the zero Network.
func numbersOf(n impl.Network) []int64 {
	numbers := append([]int64{int64(len(n.Nodes)), int64(len(n.Pipes))}, n.Nodes...)
	for _, p := range n.Pipes {
		numbers = append(numbers, p.From, p.To, p.Length, p.Diameter, p.Loss)
	}
	return numbers
}

// ordinaryFigures are all in their ranges for each network, with the least budget.
func ordinaryFigures() lossFigures {
	return lossFigures{thickness: 10, conductivity: 30, price: 50, heat: 5, years: 30, loss: 200, warm: 6000, budget: 1}
}

func ordinaryLists(n impl.Network) lossLists {
	return lossLists{months(6000), months(0), nil, slices.Repeat([]int64{5}, len(n.Pipes))}
}

// wrongLosses are figures with one number out of its range, named by this number.
func wrongLosses(pipes int) map[string][]lossFigures {
	wrong := make(map[string][]lossFigures)
	add := func(name string, low, high int64, set func(*lossFigures, int64)) {
		for _, number := range append(beyond(low, high), low-2, high+2) {
			f := ordinaryFigures()
			set(&f, number)
			wrong[name] = append(wrong[name], f)
		}
	}
	add("thickness", 1, impl.MaxThickness, func(f *lossFigures, n int64) { f.thickness = n })
	add("conductivity", 1, impl.MaxConductivity, func(f *lossFigures, n int64) { f.conductivity = n })
	add("price", 0, 1000, func(f *lossFigures, n int64) { f.price = n })
	add("heat", 0, 1000, func(f *lossFigures, n int64) { f.heat = n })
	add("years", 1, 100, func(f *lossFigures, n int64) { f.years = n })
	add("count", 0, int64(pipes), func(f *lossFigures, n int64) { f.count = n })
	add("loss", 0, impl.MaxLoss, func(f *lossFigures, n int64) { f.loss = n })
	add("money", 0, renewalLimit, func(f *lossFigures, n int64) { f.money = n })
	add("budget", 1, impl.MaxBudget, func(f *lossFigures, n int64) { f.budget = n })
	add("warm", impl.MinDegrees, impl.MaxDegrees, func(f *lossFigures, n int64) { f.warm = n })
	add("ground", impl.MinDegrees, impl.MaxDegrees, func(f *lossFigures, n int64) { f.ground = n })
	return wrong
}

// wrongIndices are no strictly increasing indices of so many pipes.
func wrongIndices(pipes int) [][]int64 {
	lists := [][]int64{{0, 0}, {1, 0}, {0, 1, 1}, {0, 2, 1}, {2, 1, 0}, make([]int64, 100000), append(first(int64(pipes)), int64(pipes))}
	for _, k := range beyond(0, int64(pipes)-1) {
		lists = append(lists, []int64{k}, []int64{0, k}, []int64{k, 0})
	}
	return lists
}

// wrongLossLists are lists of which one is not as stated, named by this one.
func wrongLossLists(n impl.Network) map[string][]lossLists {
	wrong := make(map[string][]lossLists)
	add := func(name string, lists [][]int64, set func(*lossLists, []int64)) {
		for _, list := range lists {
			l := ordinaryLists(n)
			set(&l, list)
			wrong[name] = append(wrong[name], l)
		}
	}
	years := append(wrongLists(monthsAYear, impl.MinDegrees, impl.MaxDegrees), months(0)[:1], slices.Repeat([]int64{0}, 2*monthsAYear))
	add("warms", years, func(l *lossLists, list []int64) { l.warms = list })
	add("grounds", years, func(l *lossLists, list []int64) { l.grounds = list })
	add("pipes", wrongIndices(len(n.Pipes)), func(l *lossLists, list []int64) { l.pipes = list })
	add("costs", wrongLists(len(n.Pipes), 0, renewalLimit), func(l *lossLists, list []int64) { l.costs = list })
	return wrong
}

// lossNetworks are valid ones, some of which need more nodes than the least budget.
func lossNetworks() []impl.Network {
	return []impl.Network{networkOf(1), networkOf(impl.MaxNodes), exampleNetwork(), village(), lineOf(4), losingWatts(7), largestNetwork()}
}

// worstFigures have all numbers out of their ranges.
func worstFigures() lossFigures {
	return lossFigures{0, 0, -1, -1, 0, -1, -1, -1, 0, impl.MaxDegrees + 1, impl.MinDegrees - 1}
}

func TestCoatLossRefusesNumbersOutOfRange(t *testing.T) {
	check := func(diameter, thickness, conductivity, want int64) {
		t.Helper()
		got, code := impl.CoatLoss(diameter, thickness, conductivity)
		if code != want || code != impl.OK && got != 0 {
			t.Errorf("CoatLoss(%d, %d, %d) = %d, %d, want the code %d", diameter, thickness, conductivity, got, code, want)
		}
	}
	for _, n := range append(beyond(impl.MinWidth, impl.MaxWidth), 0, -100) {
		check(n, 50, 30, impl.ErrRange)
		check(n, 1, impl.MaxConductivity, impl.ErrRange)
	}
	for _, n := range append(beyond(1, impl.MaxThickness), -1) {
		check(100, n, 30, impl.ErrRange)
		check(impl.MaxWidth, n, impl.MaxConductivity, impl.ErrRange)
	}
	for _, n := range append(beyond(1, impl.MaxConductivity), -1) {
		check(100, 50, n, impl.ErrRange)
		check(impl.MinWidth, impl.MaxThickness, n, impl.ErrRange)
	}
	check(impl.MinWidth-1, 0, 0, impl.ErrRange)
	check(impl.MinWidth, 1, 1, impl.OK)
	check(impl.MaxWidth, impl.MaxThickness, impl.MaxConductivity, impl.OK)
}

func TestLossesRefuseInvalidPipesFirst(t *testing.T) {
	for _, p := range invalidPipes() {
		for _, c := range coatCalls() {
			for _, f := range []lossFigures{ordinaryFigures(), worstFigures(), {}} {
				checkFailed(t, c.of(p, f), impl.ErrInvalid, c.name, p, f)
			}
		}
	}
}

func TestLossesRefuseInvalidNetworksFirst(t *testing.T) {
	for _, n := range invalidNetworks() {
		for _, c := range lossCalls() {
			for _, f := range []lossFigures{ordinaryFigures(), worstFigures(), {}} {
				checkFailed(t, c.of(n, f, ordinaryLists(n)), impl.ErrInvalid, c.name, n, f)
				checkFailed(t, c.of(n, f, lossLists{nil, months(-6000), []int64{1, 0}, []int64{-1}}), impl.ErrInvalid, c.name, n, f)
			}
		}
	}
}

func TestCoatsRefuseNumbersOutOfRange(t *testing.T) {
	for _, p := range []impl.Pipe{mainPipe(), pipeOf(1, impl.MinWidth, 0), pipeOf(impl.MaxLength, impl.MaxWidth, impl.MaxLoss)} {
		for _, c := range coatCalls() {
			if got := c.of(p, ordinaryFigures()); got.code != impl.OK {
				t.Errorf("%s(%+v) gives %d", c.name, p, got.code)
			}
			checkFailed(t, c.of(p, worstFigures()), impl.ErrRange, c.name, p)
			for name, wrong := range wrongLosses(0) {
				for _, f := range wrong {
					// What a function does not take makes no difference.
					if !slices.Contains(strings.Fields(c.takes), name) {
						if got := c.of(p, f); got.code != impl.OK {
							t.Errorf("%s(%+v, %+v) gives %d", c.name, p, f, got.code)
						}
						continue
					}
					checkFailed(t, c.of(p, f), impl.ErrRange, c.name, p, f)
				}
			}
		}
	}
}

func TestLossesRefuseNumbersOutOfRange(t *testing.T) {
	for _, n := range lossNetworks() {
		for _, c := range lossCalls() {
			checkFailed(t, c.of(n, worstFigures(), lossLists{nil, nil, []int64{-1}, []int64{-1}}), impl.ErrRange, c.name, n)
			for name, wrong := range wrongLosses(len(n.Pipes)) {
				for _, f := range wrong {
					// A budget that would be spent is told of only behind all numbers that are not as stated.
					if slices.Contains(strings.Fields(c.takes), name) {
						checkFailed(t, c.of(n, f, ordinaryLists(n)), impl.ErrRange, c.name, n, f)
					}
				}
			}
		}
	}
}

func TestLossesRefuseListsThatAreNotAsStated(t *testing.T) {
	for _, n := range lossNetworks() {
		for _, c := range lossCalls() {
			for name, wrong := range wrongLossLists(n) {
				for _, l := range wrong {
					if slices.Contains(strings.Fields(c.takes), name) {
						checkFailed(t, c.of(n, ordinaryFigures(), l), impl.ErrRange, c.name, n, name)
					}
				}
			}
		}
	}
}

// Numbers just at their limits are taken by all functions.
func TestLossesTakeTheirLimits(t *testing.T) {
	degrees := []int64{impl.MinDegrees, impl.MaxDegrees}
	for _, n := range lossNetworks() {
		last := int64(len(n.Pipes))
		least := lossFigures{1, 1, 0, 0, 1, 0, 0, 0, impl.MaxBudget, impl.MinDegrees, impl.MaxDegrees}
		most := lossFigures{impl.MaxThickness, impl.MaxConductivity, 1000, 1000, 100, last, impl.MaxLoss, renewalLimit, impl.MaxBudget, impl.MaxDegrees, impl.MinDegrees}
		costs := slices.Repeat([]int64{renewalLimit}, len(n.Pipes))
		for i, f := range []lossFigures{least, most} {
			l := lossLists{months(degrees[i]), months(degrees[1-i]), first(last), costs}
			for _, c := range lossCalls() {
				if got := c.of(n, f, l); got.code != impl.OK {
					t.Errorf("%s(%+v, %+v, %+v) gives %d", c.name, n, f, l, got.code)
				}
			}
			for _, c := range coatCalls() {
				if got := c.of(mainPipe(), f); got.code != impl.OK {
					t.Errorf("%s(%+v) gives %d", c.name, f, got.code)
				}
			}
		}
	}
}
