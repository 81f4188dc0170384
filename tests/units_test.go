package tests

import (
	"cmp"
	"fmt"
	"math"
	"math/rand"
	"slices"
	"strings"
	"testing"

	"loop.example/g01011/impl"
)

// Which units are valid, how they are written and read back, and which of them come first.

const mostDemand = impl.MaxUnits * impl.MaxPower

func unitOf(least, most, price, start, up, down int64) impl.Unit {
	return impl.Unit{Id: "u", Least: least, Most: most, Price: price, Start: start, Up: up, Down: down}
}

func mainUnit() impl.Unit { return unitOf(10, 100, 500, 2000, 1, 1) }

func greatestUnit() impl.Unit {
	return unitOf(impl.MaxPower, impl.MaxPower, impl.MaxPrice, impl.MaxStart, impl.MaxRun, impl.MaxRun)
}

// unitsOf returns a list of units, with Ids in their order.
func unitsOf(units ...impl.Unit) []impl.Unit {
	list := slices.Clone(units)
	for i := range list {
		list[i].Id = fmt.Sprint("u", i)
	}
	return list
}

// twoUnits are a dear one and a cheap one, which has to be on for longer.
func twoUnits() []impl.Unit {
	return unitsOf(unitOf(10, 100, 500, 2000, 1, 1), unitOf(20, 60, 300, 5000, 2, 1))
}

func mostUnits() []impl.Unit {
	return unitsOf(slices.Repeat([]impl.Unit{greatestUnit()}, impl.MaxUnits)...)
}

func validUnits() []impl.Unit {
	return []impl.Unit{
		mainUnit(), greatestUnit(), unitOf(0, 1, 0, 0, 1, 1), unitOf(0, impl.MaxPower, 0, 0, 1, 1), unitOf(1, 1, 0, 0, 1, 1), unitOf(7, 7, 3, 4, 2, 3),
		unitOf(impl.MaxPower-1, impl.MaxPower, 1, 1, 3, 2), unitOf(0, 1, impl.MaxPrice, 0, 1, impl.MaxRun), unitOf(0, 1, 0, impl.MaxStart, impl.MaxRun, 1),
		{Id: "a", Most: 1, Up: 1, Down: 1}, {Id: "abcdefghij", Least: 5, Most: 6, Up: 2, Down: 2}, {Id: "z9", Most: 9, Up: 1, Down: 2},
	}
}

// invalidUnits are those with one thing wrong.
func invalidUnits() []impl.Unit {
	list := []impl.Unit{{}}
	change := func(numbers []int64, set func(*impl.Unit, int64)) {
		for _, n := range numbers {
			u := mainUnit()
			set(&u, n)
			list = append(list, u)
		}
	}
	for _, id := range notNames() {
		change([]int64{0}, func(u *impl.Unit, _ int64) { u.Id = id })
	}
	change(beyond(0, impl.MaxPower), func(u *impl.Unit, n int64) { u.Least = n })
	change(beyond(1, impl.MaxPower), func(u *impl.Unit, n int64) { u.Most = n })
	// Nothing is made by a unit with the Most 0, even if its Least is not greater.
	change([]int64{0, -1}, func(u *impl.Unit, n int64) { u.Least, u.Most = 0, n })
	change(append(beyond(0, impl.MaxPower), -2), func(u *impl.Unit, n int64) { u.Least, u.Most = n, n })
	change([]int64{1, 2, 10, impl.MaxPower}, func(u *impl.Unit, n int64) { u.Least, u.Most = n, n-1 })
	change([]int64{2, impl.MaxPower}, func(u *impl.Unit, n int64) { u.Least, u.Most = n, 1 })
	change(beyond(0, impl.MaxPrice), func(u *impl.Unit, n int64) { u.Price = n })
	change(beyond(0, impl.MaxStart), func(u *impl.Unit, n int64) { u.Start = n })
	change(append(beyond(1, impl.MaxRun), -1), func(u *impl.Unit, n int64) { u.Up = n })
	change(append(beyond(1, impl.MaxRun), -1), func(u *impl.Unit, n int64) { u.Down = n })
	return list
}

func validUnitLists() [][]impl.Unit {
	byBytes := unitsOf(slices.Repeat([]impl.Unit{mainUnit()}, impl.MaxUnits)...)
	byBytes[0].Id, byBytes[1].Id, byBytes[2].Id, byBytes[3].Id = "a", "a0", "a10", "a9"
	lists := [][]impl.Unit{twoUnits(), mostUnits(), byBytes}
	for _, u := range validUnits() {
		lists = append(lists, []impl.Unit{u})
	}
	return lists
}

func invalidUnitLists() [][]impl.Unit {
	five := slices.Repeat([]impl.Unit{mainUnit()}, impl.MaxUnits+1)
	lists := [][]impl.Unit{
		nil, {}, {{}}, unitsOf(five...), unitsOf(slices.Concat(five, five)...), make([]impl.Unit, 100000), {mainUnit(), mainUnit()},
	}
	change := func(set func([]impl.Unit)) {
		list := unitsOf(five[:impl.MaxUnits]...)
		set(list)
		lists = append(lists, list)
	}
	change(slices.Reverse[[]impl.Unit])
	for i := range impl.MaxUnits - 1 {
		change(func(list []impl.Unit) { list[i+1].Id = list[i].Id })
		change(func(list []impl.Unit) { list[i], list[i+1] = list[i+1], list[i] })
	}
	change(func(list []impl.Unit) { list[2].Id, list[3].Id = "u9", "u10" })
	for _, u := range invalidUnits() {
		for i := range impl.MaxUnits {
			change(func(list []impl.Unit) { list[i] = u })
		}
		// With an Id at its place, all that is wrong is another number.
		if u.Id == "u" {
			change(func(list []impl.Unit) { u.Id = list[1].Id; list[1] = u })
		}
	}
	return lists
}

// randomUnits have small numbers, so that there are many ways to make the same power at the same cost.
func randomUnits(random *rand.Rand, count int, widest int64) []impl.Unit {
	var list []impl.Unit
	for range count {
		most := 1 + random.Int63n(widest)
		list = append(list, unitOf(random.Int63n(most+1), most, random.Int63n(4), random.Int63n(2*widest), 1+random.Int63n(impl.MaxRun), 1+random.Int63n(impl.MaxRun)))
	}
	return unitsOf(list...)
}

func TestValidUnits(t *testing.T) {
	for _, list := range validUnitLists() {
		if !impl.ValidUnits(list) {
			t.Errorf("ValidUnits(%+v) = false", list)
		}
	}
	for _, list := range invalidUnitLists() {
		if impl.ValidUnits(list) {
			t.Errorf("ValidUnits(%+v) = true", list[:min(len(list), 10)])
		}
	}
	for count := range 2 * impl.MaxUnits {
		list := unitsOf(slices.Repeat([]impl.Unit{mainUnit()}, count)...)
		if got, want := impl.ValidUnits(list), count >= 1 && count <= impl.MaxUnits; got != want {
			t.Errorf("ValidUnits of %d units = %v", count, got)
		}
	}
}

func TestUnitsAreReadBack(t *testing.T) {
	texts := []string{
		"boiler 10,100,500,2000,1,1", "u 0,1,0,0,1,1", "abcdefghij 100000,100000,100000,100000000,3,3", "z9 7,7,3,4,2,3", "a 0,100000,1,1,3,1",
	}
	for _, s := range texts {
		u, ok := impl.ReadUnit(s)
		if !ok || !impl.ValidUnits([]impl.Unit{u}) || impl.UnitText(u) != s {
			t.Errorf("ReadUnit(%q) = %+v, %v", s, u, ok)
		}
	}
	want := impl.Unit{Id: "pump", Least: 1, Most: 2, Price: 3, Start: 4, Up: 2, Down: 3}
	if got, ok := impl.ReadUnit("pump 1,2,3,4,2,3"); got != want || !ok || impl.UnitText(want) != "pump 1,2,3,4,2,3" {
		t.Errorf("%+v is read as %+v, %v, and written as %q", want, got, ok, impl.UnitText(want))
	}
	random := rand.New(rand.NewSource(140))
	for range 1000 {
		u := randomUnits(random, 1, impl.MaxPower)[0]
		if got, ok := impl.ReadUnit(impl.UnitText(u)); got != u || !ok {
			t.Errorf("ReadUnit(%q) = %+v, %v", impl.UnitText(u), got, ok)
		}
	}
	for _, u := range validUnits() {
		if got, ok := impl.ReadUnit(impl.UnitText(u)); got != u || !ok {
			t.Errorf("ReadUnit(%q) = %+v, %v", impl.UnitText(u), got, ok)
		}
	}
	for _, u := range append(invalidUnits(), unitOf(math.MinInt64, math.MaxInt64, 0, 0, 1, 1)) {
		if got := impl.UnitText(u); got != "" {
			t.Errorf("UnitText(%+v) = %q", u, got)
		}
	}
}

func TestReadUnitRefuses(t *testing.T) {
	texts := append(extremeTexts(),
		"u", "u ", " u", "u -", "u 10", "u 10,100,500,2000,1", "u 10,100,500,2000,1,1,1", "u 10,100,500,2000,1,1,", "u ,10,100,500,2000,1,1",
		"10,100,500,2000,1,1", " 10,100,500,2000,1,1", " u 10,100,500,2000,1,1", "u  10,100,500,2000,1,1", "u 10,100,500,2000,1,1 ",
		"u\t10,100,500,2000,1,1", "u 10,100,500,2000,1,1\n", "u 10, 100,500,2000,1,1", "u 10 100 500 2000 1 1", "u 010,100,500,2000,1,1",
		"u +10,100,500,2000,1,1", "u -0,100,500,2000,1,1", "u 10,100,500,2000,1,-", "u x 10,100,500,2000,1,1", "U 10,100,500,2000,1,1",
		"7u 10,100,500,2000,1,1", "abcdefghijk 10,100,500,2000,1,1", "u-1 10,100,500,2000,1,1", "u\x00 10,100,500,2000,1,1",
		"u -1,100,500,2000,1,1", "u 101,100,500,2000,1,1", "u 100001,100001,500,2000,1,1", "u 0,0,500,2000,1,1", "u 10,100001,500,2000,1,1",
		"u 10,100,-1,2000,1,1", "u 10,100,100001,2000,1,1", "u 10,100,500,-1,1,1", "u 10,100,500,100000001,1,1", "u 10,100,500,2000,0,1",
		"u 10,100,500,2000,4,1", "u 10,100,500,2000,1,0", "u 10,100,500,2000,1,4", "u 10,1000000000001,500,2000,1,1",
		"u "+strings.Repeat("1,", 1000)+"1", strings.Repeat("a", 100000)+" 10,100,500,2000,1,1", "e 1,1000,6000,4000", "main 0,1,500,100,300")
	for _, s := range texts {
		if u, ok := impl.ReadUnit(s); u != (impl.Unit{}) || ok {
			t.Errorf("ReadUnit(%q) = %+v, %v", s[:min(len(s), 50)], u, ok)
		}
	}
}

// pricedUnits returns units that differ in their prices only.
func pricedUnits(prices ...int64) []impl.Unit {
	var list []impl.Unit
	for _, price := range prices {
		list = append(list, unitOf(10, 100, price, 2000, 1, 1))
	}
	return unitsOf(list...)
}

func TestMeritOrder(t *testing.T) {
	cases := []struct{ prices, want []int64 }{
		{[]int64{5}, []int64{0}}, {[]int64{0}, []int64{0}}, {[]int64{1, 2}, []int64{0, 1}}, {[]int64{2, 1}, []int64{1, 0}}, {[]int64{3, 3}, []int64{0, 1}},
		{[]int64{0, impl.MaxPrice}, []int64{0, 1}}, {[]int64{impl.MaxPrice, impl.MaxPrice - 1, 0, 1}, []int64{2, 3, 1, 0}},
		{[]int64{4, 3, 2, 1}, []int64{3, 2, 1, 0}}, {[]int64{7, 7, 7, 7}, []int64{0, 1, 2, 3}}, {[]int64{2, 1, 2, 1}, []int64{1, 3, 0, 2}},
		{[]int64{0, 9, 0}, []int64{0, 2, 1}}, {[]int64{9, 0, 9}, []int64{1, 0, 2}},
	}
	for _, c := range cases {
		got, code := impl.MeritOrder(pricedUnits(c.prices...))
		checkIndices(t, got, code, c.want, "MeritOrder", c.prices)
	}
	// Nothing but the price counts.
	list := unitsOf(unitOf(0, 1, 3, 0, 1, 1), unitOf(50, impl.MaxPower, 2, impl.MaxStart, 3, 3))
	got, code := impl.MeritOrder(list)
	checkIndices(t, got, code, []int64{1, 0}, "MeritOrder", list)
}

// byMerit sorts the indices of units by their prices.
func byMerit(list []impl.Unit) []int64 {
	order := first(int64(len(list)))
	slices.SortStableFunc(order, func(a, b int64) int { return cmp.Compare(list[a].Price, list[b].Price) })
	return order
}

func TestMeritOrderOfAnyUnits(t *testing.T) {
	random := rand.New(rand.NewSource(141))
	for range 500 {
		list := randomUnits(random, 1+random.Intn(impl.MaxUnits), 5)
		got, code := impl.MeritOrder(list)
		checkIndices(t, got, code, byMerit(list), "MeritOrder", list)
	}
}
