package tests

import (
	"math"
	"math/rand"
	"slices"
	"strings"
	"testing"

	"loop.example/g01011/impl"
)

// Which substations are valid, and how they are written and read back.

func substationOf(transfer, supply, back int64) impl.Substation {
	return impl.Substation{Id: "e", Node: 1, Transfer: transfer, Supply: supply, Return: back}
}

func mainSubstation() impl.Substation { return substationOf(1000, 6000, 4000) }

// substationsOf returns so many substations like one, with other Ids.
func substationsOf(count int, x impl.Substation) []impl.Substation {
	list := slices.Repeat([]impl.Substation{x}, count)
	for i := range list {
		list[i].Id = "s" + impl.Decimal(int64(10+i))
	}
	return list
}

func validSubstations() []impl.Substation {
	return []impl.Substation{
		mainSubstation(), substationOf(1, 1, 0), substationOf(impl.MaxTransfer, impl.MaxWater, impl.MinWater),
		{Id: "a", Node: 0, Transfer: 1, Supply: impl.MaxWater, Return: impl.MaxWater - 1},
		{Id: "abcdefghij", Node: impl.MaxNodes - 1, Transfer: impl.MaxTransfer, Supply: 5000, Return: 4999},
		{Id: "z9", Node: 7, Transfer: 350, Supply: 7000, Return: 0},
	}
}

// invalidSubstations are those with one thing wrong.
func invalidSubstations() []impl.Substation {
	list := []impl.Substation{{}}
	change := func(set func(*impl.Substation)) {
		x := mainSubstation()
		set(&x)
		list = append(list, x)
	}
	for _, id := range notNames() {
		change(func(x *impl.Substation) { x.Id = id })
	}
	for _, n := range append(beyond(0, impl.MaxNodes-1), -2) {
		change(func(x *impl.Substation) { x.Node = n })
	}
	for _, n := range append(beyond(1, impl.MaxTransfer), -1) {
		change(func(x *impl.Substation) { x.Transfer = n })
	}
	for _, n := range beyond(impl.MinWater, impl.MaxWater) {
		change(func(x *impl.Substation) { x.Supply = n })
		change(func(x *impl.Substation) { x.Return = n })
		change(func(x *impl.Substation) { x.Supply, x.Return = n, n-1 })
	}
	for _, n := range []int64{impl.MinWater, 1, 5000, impl.MaxWater} {
		change(func(x *impl.Substation) { x.Supply, x.Return = n, n })
	}
	change(func(x *impl.Substation) { x.Supply, x.Return = x.Return, x.Supply })
	change(func(x *impl.Substation) { x.Supply, x.Return = 5000, 5001 })
	change(func(x *impl.Substation) { x.Supply, x.Return = impl.MinWater, impl.MaxWater })
	return list
}

func validSubstationLists() [][]impl.Substation {
	most := substationsOf(impl.MaxSubstations, mainSubstation())
	byBytes := substationsOf(4, mainSubstation())
	byBytes[0].Id, byBytes[1].Id, byBytes[2].Id, byBytes[3].Id = "a", "a0", "a10", "a9"
	return [][]impl.Substation{nil, {}, {mainSubstation()}, most, byBytes, substationsOf(2, substationOf(1, 1, 0))}
}

func invalidSubstationLists() [][]impl.Substation {
	lists := [][]impl.Substation{
		{{}}, substationsOf(impl.MaxSubstations+1, mainSubstation()), substationsOf(80, mainSubstation()),
		{mainSubstation(), mainSubstation()}, make([]impl.Substation, 100000),
	}
	change := func(set func([]impl.Substation)) {
		list := substationsOf(4, mainSubstation())
		set(list)
		lists = append(lists, list)
	}
	change(slices.Reverse[[]impl.Substation])
	for i := range 3 {
		change(func(list []impl.Substation) { list[i+1].Id = list[i].Id })
		change(func(list []impl.Substation) { list[i], list[i+1] = list[i+1], list[i] })
	}
	change(func(list []impl.Substation) { list[3].Id = "s9"; list[0].Id = "sa" })
	for _, x := range invalidSubstations() {
		for i := range 4 {
			change(func(list []impl.Substation) { list[i] = x })
		}
	}
	return lists
}

// randomSubstation has temperatures that are not farther from each other than widest.
func randomSubstation(random *rand.Rand, widest int64) impl.Substation {
	back := random.Int63n(impl.MaxWater)
	supply := back + 1 + random.Int63n(min(widest, impl.MaxWater-back))
	x := substationOf(1+random.Int63n(impl.MaxTransfer)>>random.Intn(17), supply, back)
	x.Node = random.Int63n(impl.MaxNodes)
	return x
}

func TestValidSubstation(t *testing.T) {
	for _, x := range validSubstations() {
		if !impl.ValidSubstation(x) {
			t.Errorf("ValidSubstation(%+v) = false", x)
		}
	}
	for _, x := range invalidSubstations() {
		if impl.ValidSubstation(x) {
			t.Errorf("ValidSubstation(%+v) = true", x)
		}
	}
}

func TestValidSubstations(t *testing.T) {
	for _, list := range validSubstationLists() {
		if !impl.ValidSubstations(list) {
			t.Errorf("ValidSubstations(%+v) = false", list)
		}
	}
	for _, list := range invalidSubstationLists() {
		if impl.ValidSubstations(list) {
			t.Errorf("ValidSubstations(%+v) = true", list[:min(len(list), 20)])
		}
	}
}

func TestSubstationsAreReadBack(t *testing.T) {
	texts := []string{"e 1,1000,6000,4000", "a 0,1,18000,17999", "abcdefghij 15,100000,5000,4999", "z9 7,350,1,0"}
	for _, s := range texts {
		x, ok := impl.ReadSubstation(s)
		if !ok || !impl.ValidSubstation(x) || impl.SubstationText(x) != s {
			t.Errorf("ReadSubstation(%q) = %+v, %v", s, x, ok)
		}
	}
	if got, ok := impl.ReadSubstation(texts[0]); got != mainSubstation() || !ok || impl.SubstationText(mainSubstation()) != texts[0] {
		t.Errorf("ReadSubstation(%q) = %+v, %v, written as %q", texts[0], got, ok, impl.SubstationText(mainSubstation()))
	}
	random := rand.New(rand.NewSource(130))
	for range 1000 {
		x := randomSubstation(random, impl.MaxWater)
		if got, ok := impl.ReadSubstation(impl.SubstationText(x)); got != x || !ok {
			t.Errorf("ReadSubstation(%q) = %+v, %v", impl.SubstationText(x), got, ok)
		}
	}
	for _, x := range append(invalidSubstations(), substationOf(math.MinInt64, 6000, 4000)) {
		if got := impl.SubstationText(x); got != "" {
			t.Errorf("SubstationText(%+v) = %q", x, got)
		}
	}
}

func TestReadSubstationRefuses(t *testing.T) {
	texts := append(extremeTexts(),
		"e", "e ", " e", "e -", "e 1", "e 1,1000,6000", "e 1,1000,6000,4000,0", "e 1,1000,6000,4000,", "e ,1,1000,6000,4000",
		"1,1000,6000,4000", " 1,1000,6000,4000", " e 1,1000,6000,4000", "e  1,1000,6000,4000", "e 1,1000,6000,4000 ", "e\t1,1000,6000,4000",
		"e 1,1000,6000,4000\n", "e 1, 1000,6000,4000", "e 1 1000 6000 4000", "e 01,1000,6000,4000", "e 1,+1000,6000,4000", "e -0,1000,6000,4000",
		"e 1,1000,6000,-", "e x 1,1000,6000,4000", "E 1,1000,6000,4000", "7e 1,1000,6000,4000", "abcdefghijk 1,1000,6000,4000", "e-1 1,1000,6000,4000",
		"e\x00 1,1000,6000,4000", "e 16,1000,6000,4000", "e -1,1000,6000,4000", "e 1,0,6000,4000", "e 1,100001,6000,4000", "e 1,-1,6000,4000",
		"e 1,1000,4000,6000", "e 1,1000,5000,5000", "e 1,1000,0,0", "e 1,1000,18001,4000", "e 1,1000,6000,-1", "e 1,1000,1000000000001,4000",
		"e "+strings.Repeat("1,", 1000)+"1", strings.Repeat("a", 100000)+" 1,1000,6000,4000", "main 0,1,500,100,300")
	for _, s := range texts {
		if x, ok := impl.ReadSubstation(s); x != (impl.Substation{}) || ok {
			t.Errorf("ReadSubstation(%q) = %+v, %v", s[:min(len(s), 50)], x, ok)
		}
	}
}
