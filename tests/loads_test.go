package tests

import (
	"math"
	"math/rand"
	"reflect"
	"slices"
	"strings"
	"testing"

	"loop.example/g01011/impl"
)

// Promise 6: loads never fall when it becomes colder, and the heat of a day is the sum of its hours.

const hours = impl.HoursADay

// always is a profile with the same number for each hour.
func always(share int64) []int64 {
	return slices.Repeat([]int64{share}, hours)
}

// buildingOf returns a building at the node 0 that needs the same base at all hours.
func buildingOf(id string, base, share, slope, limit int64) impl.Building {
	return impl.Building{Id: id, Base: base, Slope: slope, Limit: limit, Profile: always(share)}
}

// house is a building whose numbers are different for each hour.
func house() impl.Building {
	b := impl.Building{Id: "house", Node: 2, Base: 10000, Slope: 200, Limit: 1500}
	for hour := range int64(hours) {
		b.Profile = append(b.Profile, 500+7*hour)
	}
	return b
}

// greatBuilding needs as much as a building may, and has the longest Id.
func greatBuilding(place int64) impl.Building {
	b := buildingOf("building"+impl.Decimal(10+place), impl.MaxBase, impl.MaxShare, impl.MaxSlope, impl.MaxOutdoor)
	b.Node = impl.MaxNodes - 1
	return b
}

// mostBuildings is a list as long as possible.
func mostBuildings() []impl.Building {
	var list []impl.Building
	for place := range int64(impl.MaxBuildings) {
		list = append(list, greatBuilding(place))
	}
	return list
}

func randomBuildings(random *rand.Rand) []impl.Building {
	var list []impl.Building
	for place := range random.Intn(impl.MaxBuildings + 1) {
		b := impl.Building{
			Id:    "b" + impl.Decimal(int64(10+place)),
			Node:  random.Int63n(impl.MaxNodes),
			Base:  random.Int63n(impl.MaxBase+1) >> random.Intn(20),
			Slope: random.Int63n(impl.MaxSlope+1) >> random.Intn(17),
			Limit: randomOutdoor(random),
		}
		for range hours {
			b.Profile = append(b.Profile, random.Int63n(impl.MaxShare+1)>>random.Intn(12))
		}
		list = append(list, b)
	}
	return list
}

func randomOutdoor(random *rand.Rand) int64 {
	return impl.MinOutdoor + random.Int63n(impl.MaxOutdoor-impl.MinOutdoor+1)
}

func randomOutdoors(random *rand.Rand) []int64 {
	var list []int64
	for range hours {
		list = append(list, randomOutdoor(random))
	}
	return list
}

// exactLoad is the load of a building by its formula, in arithmetic without limits.
func exactLoad(b impl.Building, outdoor, hour int64) int64 {
	load := quotientOf(1000, b.Base, b.Profile[hour])
	if outdoor < b.Limit {
		load += quotientOf(100, b.Slope, b.Limit-outdoor)
	}
	return load
}

func exactLoads(list []impl.Building, outdoor, hour int64) int64 {
	sum := int64(0)
	for _, b := range list {
		sum += exactLoad(b, outdoor, hour)
	}
	return sum
}

// invalidBuildings are those with one thing wrong.
func invalidBuildings() []impl.Building {
	list := []impl.Building{{}}
	change := func(set func(*impl.Building)) {
		b := house()
		set(&b)
		list = append(list, b)
	}
	for _, id := range []string{"", "7a", "House", "a b", "a-b", "abcdefghijk", "é", "a\x00"} {
		change(func(b *impl.Building) { b.Id = id })
	}
	for _, n := range beyond(0, impl.MaxNodes-1) {
		change(func(b *impl.Building) { b.Node = n })
	}
	for _, n := range beyond(0, impl.MaxBase) {
		change(func(b *impl.Building) { b.Base = n })
	}
	for _, n := range beyond(0, impl.MaxSlope) {
		change(func(b *impl.Building) { b.Slope = n })
	}
	for _, n := range beyond(impl.MinOutdoor, impl.MaxOutdoor) {
		change(func(b *impl.Building) { b.Limit = n })
	}
	for _, n := range beyond(0, impl.MaxShare) {
		for _, hour := range []int{0, 11, hours - 1} {
			change(func(b *impl.Building) { b.Profile[hour] = n })
		}
	}
	for _, length := range []int{0, 1, hours - 1, hours + 1, 2 * hours, 100000} {
		change(func(b *impl.Building) { b.Profile = make([]int64, length) })
	}
	change(func(b *impl.Building) { b.Profile = nil })
	return list
}

func validBuildings() []impl.Building {
	return []impl.Building{
		house(), greatBuilding(0), buildingOf("a", 0, 0, 0, impl.MinOutdoor), buildingOf("z9", 1, 1, 1, 0),
		buildingOf("abcdefghij", impl.MaxBase, 0, 0, impl.MaxOutdoor), buildingOf("b", 0, impl.MaxShare, impl.MaxSlope, -1),
	}
}

// invalidLists are lists of buildings with one thing wrong.
func invalidLists() [][]impl.Building {
	a, b, c := buildingOf("a", 1, 2, 3, 4), buildingOf("b", 1, 2, 3, 4), buildingOf("c", 1, 2, 3, 4)
	lists := [][]impl.Building{
		{a, a}, {b, a}, {a, b, b}, {a, a, b}, {a, c, b}, {b, a, c}, {c, b, a}, {a, b, a},
		append(mostBuildings(), buildingOf("c", 1, 2, 3, 4)), make([]impl.Building, 100000),
	}
	for _, bad := range invalidBuildings() {
		lists = append(lists, []impl.Building{bad})
	}
	for place := range impl.MaxBuildings {
		list := mostBuildings()
		list[place].Profile = list[place].Profile[:hours-1]
		lists = append(lists, list)
		list = mostBuildings()
		list[place].Id = "B"
		lists = append(lists, list)
	}
	return lists
}

func validLists() [][]impl.Building {
	a, b := buildingOf("a", 1, 2, 3, 4), buildingOf("b", 1, 2, 3, 4)
	aa, a0 := buildingOf("aa", 1, 2, 3, 4), buildingOf("a0", 1, 2, 3, 4)
	lists := [][]impl.Building{nil, {}, {a}, {a, b}, {a, aa, b}, {a, a0, aa}, mostBuildings(), mostBuildings()[1:]}
	for _, one := range validBuildings() {
		lists = append(lists, []impl.Building{one})
	}
	return lists
}

func TestValidBuildings(t *testing.T) {
	for _, list := range validLists() {
		if !impl.ValidBuildings(list) {
			t.Errorf("ValidBuildings(%+v) = false", list)
		}
	}
	for _, list := range invalidLists() {
		if impl.ValidBuildings(list) {
			t.Errorf("ValidBuildings(%+v) = true", list[:min(len(list), 20)])
		}
	}
}

func TestLoadOf(t *testing.T) {
	half := buildingOf("a", 1, 500, 1, 100)
	cases := []struct {
		b                   impl.Building
		outdoor, hour, want int64
	}{
		{house(), 500, 0, 7000}, {house(), 500, 1, 7070}, {house(), 500, 23, 8610}, {house(), 500, 22, 8540},
		// At the limit, and one hundredth of a degree around it.
		{house(), 1500, 0, 5000}, {house(), 1501, 0, 5000}, {house(), 1499, 0, 5002}, {house(), 4500, 0, 5000},
		{house(), -4000, 0, 16000}, {house(), -4000, 23, 17610}, {house(), 0, 0, 8000}, {house(), -1, 0, 8002},
		{buildingOf("a", 0, 3000, 0, 4500), -4000, 12, 0}, {buildingOf("a", 1000, 0, 100, -4000), -4000, 12, 0},
		{greatBuilding(0), -4000, 23, 11500000}, {greatBuilding(0), 4500, 0, 3000000},
		// Halves are rounded up, and each part for itself.
		{half, 100, 0, 1}, {half, 51, 0, 1}, {half, 50, 0, 2}, {half, 0, 0, 2}, {half, -50, 0, 3}, {half, -49, 0, 2},
		{buildingOf("a", 1, 499, 1, 0), -49, 0, 0}, {buildingOf("a", 1, 499, 1, 0), -50, 0, 1},
	}
	for _, c := range cases {
		got, code := impl.LoadOf(c.b, c.outdoor, c.hour)
		checkCode(t, got, code, c.want, impl.OK, "LoadOf", c.b, c.outdoor, c.hour)
	}
	for _, b := range validBuildings() {
		for _, n := range beyond(impl.MinOutdoor, impl.MaxOutdoor) {
			got, code := impl.LoadOf(b, n, 3)
			checkCode(t, got, code, 0, impl.ErrRange, "LoadOf", b, n, 3)
		}
		for _, n := range beyond(0, hours-1) {
			got, code := impl.LoadOf(b, 0, n)
			checkCode(t, got, code, 0, impl.ErrRange, "LoadOf", b, 0, n)
		}
	}
}

func TestLoadsAreExactAndRiseWithTheCold(t *testing.T) {
	random := rand.New(rand.NewSource(40))
	for range 400 {
		for _, b := range randomBuildings(random) {
			hour := random.Int63n(hours)
			for _, outdoor := range []int64{randomOutdoor(random), b.Limit, max(b.Limit-1, impl.MinOutdoor), impl.MinOutdoor} {
				got, code := impl.LoadOf(b, outdoor, hour)
				checkCode(t, got, code, exactLoad(b, outdoor, hour), impl.OK, "LoadOf", b, outdoor, hour)
				warmer := outdoor + random.Int63n(impl.MaxOutdoor-outdoor+1)>>random.Intn(13)
				if less, _ := impl.LoadOf(b, warmer, hour); less > got {
					t.Errorf("%+v needs %d at %d, but %d at %d", b, got, outdoor, less, warmer)
				}
			}
		}
	}
	for _, b := range validBuildings() {
		last := int64(math.MaxInt64)
		for outdoor := int64(impl.MinOutdoor); outdoor <= impl.MaxOutdoor; outdoor++ {
			load, code := impl.LoadOf(b, outdoor, 5)
			if code != impl.OK || load > last {
				t.Errorf("%+v needs %d at %d, but %d when it is colder", b, load, outdoor, last)
			}
			last = load
		}
	}
}

func TestForecastsOfDays(t *testing.T) {
	random := rand.New(rand.NewSource(41))
	lists := validLists()
	for range 300 {
		lists = append(lists, randomBuildings(random))
	}
	for _, list := range lists {
		outdoors := randomOutdoors(random)
		outdoors[0], outdoors[hours-1] = impl.MinOutdoor, impl.MaxOutdoor
		var want []int64
		sum := int64(0)
		for hour, outdoor := range outdoors {
			want = append(want, exactLoads(list, outdoor, int64(hour)))
			sum += want[hour]
		}
		sums, code := impl.ForecastOf(list, outdoors)
		checkIndices(t, sums, code, want, "ForecastOf", list, outdoors)
		heat, code := impl.HeatOf(list, outdoors)
		checkCode(t, heat, code, quotientOf(1000, sum), impl.OK, "HeatOf", list, outdoors)
		peak := int64(slices.Index(want, slices.Max(want)))
		if hour, load, code := impl.PeakHour(list, outdoors); hour != peak || load != want[peak] || code != impl.OK {
			t.Errorf("PeakHour(%+v, %d) = %d, %d, %d", list, outdoors, hour, load, code)
		}
		for _, b := range list {
			loads, code := impl.DayLoads(b, outdoors)
			want := []int64{}
			for hour, outdoor := range outdoors {
				want = append(want, exactLoad(b, outdoor, int64(hour)))
			}
			checkIndices(t, loads, code, want, "DayLoads", b, outdoors)
		}
	}
}

// The sums of numbers that are rounded before and after they are added are different here.
func TestEachBuildingIsRounded(t *testing.T) {
	outdoors := always(50)
	halves := []impl.Building{buildingOf("a", 1, 500, 1, 100), buildingOf("b", 1, 500, 1, 100), buildingOf("c", 1, 500, 1, 100)}
	less := []impl.Building{buildingOf("a", 1, 400, 2, 70), buildingOf("b", 1, 400, 2, 70), buildingOf("c", 1, 400, 2, 70)}
	cases := []struct {
		list       []impl.Building
		sum, kilos int64
	}{
		{halves, 6, 0}, {halves[:1], 2, 0}, {less, 0, 0},
		// A day of 480, of 504 and of 12000 watt hours: the hours are not rounded for themselves.
		{[]impl.Building{buildingOf("a", 20, 1000, 0, 0)}, 20, 0},
		{[]impl.Building{buildingOf("a", 21, 1000, 0, 0)}, 21, 1},
		{[]impl.Building{buildingOf("a", 250, 1000, 0, 0), buildingOf("b", 250, 1000, 0, 0)}, 500, 12},
	}
	for _, c := range cases {
		sums, code := impl.ForecastOf(c.list, outdoors)
		checkIndices(t, sums, code, always(c.sum), "ForecastOf", c.list, outdoors)
		heat, code := impl.HeatOf(c.list, outdoors)
		checkCode(t, heat, code, c.kilos, impl.OK, "HeatOf", c.list, outdoors)
		loads, code := impl.NodeLoads(c.list, 1, 50, 7)
		checkIndices(t, loads, code, []int64{c.sum}, "NodeLoads", c.list, 1, 50, 7)
		at, code := impl.OutdoorFor(c.list, c.sum, 7)
		if reached := exactLoads(c.list, at, 7); code != impl.OK || at < 50 || reached < c.sum {
			t.Errorf("OutdoorFor(%+v, %d, 7) = %d, %d", c.list, c.sum, at, code)
		}
	}
	// Just 500 watt hours in all are a half, which is rounded up.
	b := buildingOf("a", 1, 0, 0, 0)
	b.Base, b.Profile[3], b.Profile[4] = 100, 2000, 2990
	for _, c := range []struct{ share, want int64 }{{2990, 0}, {3000, 1}} {
		b.Profile[4] = c.share
		heat, code := impl.HeatOf([]impl.Building{b}, outdoors)
		checkCode(t, heat, code, c.want, impl.OK, "HeatOf", b, outdoors)
	}
}

func TestPeakHour(t *testing.T) {
	b := buildingOf("a", 1000, 1000, 0, 0)
	cases := []struct {
		hours      []int
		share      int64
		peak, load int64
	}{
		{nil, 0, 0, 1000}, {[]int{0}, 1001, 0, 1001}, {[]int{23}, 1001, 23, 1001}, {[]int{7, 23}, 1001, 7, 1001},
		{[]int{5, 6, 7}, 3000, 5, 3000}, {[]int{0, 23}, 999, 1, 1000}, {[]int{0, 1, 2, 3, 4}, 0, 5, 1000},
	}
	for _, c := range cases {
		b.Profile = always(1000)
		for _, hour := range c.hours {
			b.Profile[hour] = c.share
		}
		hour, load, code := impl.PeakHour([]impl.Building{b}, always(0))
		if hour != c.peak || load != c.load || code != impl.OK {
			t.Errorf("PeakHour(%+v) = %d, %d, %d, want %d, %d", b, hour, load, code, c.peak, c.load)
		}
	}
	// The temperatures of the hours count too, and those of all buildings together.
	outdoors := always(4500)
	outdoors[9] = 4499
	list := []impl.Building{buildingOf("a", 0, 0, 100, 4500), buildingOf("b", 1000, 1000, 0, 0)}
	if hour, load, code := impl.PeakHour(list, outdoors); hour != 9 || load != 1001 || code != impl.OK {
		t.Errorf("PeakHour(%+v, %d) = %d, %d, %d", list, outdoors, hour, load, code)
	}
}

func TestNoBuildingsNeedNothing(t *testing.T) {
	outdoors := always(-4000)
	sums, code := impl.ForecastOf(nil, outdoors)
	checkIndices(t, sums, code, always(0), "ForecastOf", "no building")
	heat, code := impl.HeatOf(nil, outdoors)
	checkCode(t, heat, code, 0, impl.OK, "HeatOf", "no building")
	if hour, load, code := impl.PeakHour(nil, outdoors); hour != 0 || load != 0 || code != impl.OK {
		t.Errorf("PeakHour of no building = %d, %d, %d", hour, load, code)
	}
	for _, nodes := range []int64{1, 2, impl.MaxNodes} {
		loads, code := impl.NodeLoads(nil, nodes, -4000, 0)
		checkIndices(t, loads, code, make([]int64, nodes), "NodeLoads", "no building", nodes)
	}
	at, code := impl.OutdoorFor(nil, 0, 0)
	checkCode(t, at, code, impl.MaxOutdoor, impl.OK, "OutdoorFor", "no building", 0)
	at, code = impl.OutdoorFor(nil, 1, 0)
	checkCode(t, at, code, 0, impl.ErrNotFound, "OutdoorFor", "no building", 1)
}

func TestMostBuildings(t *testing.T) {
	list := mostBuildings()
	sums, code := impl.ForecastOf(list, always(-4000))
	checkIndices(t, sums, code, always(138000000), "ForecastOf", "the most buildings")
	heat, code := impl.HeatOf(list, always(-4000))
	checkCode(t, heat, code, 3312000, impl.OK, "HeatOf", "the most buildings")
	loads, code := impl.NodeLoads(list, impl.MaxNodes, -4000, 23)
	checkIndices(t, loads, code, append(make([]int64, impl.MaxNodes-1), 138000000), "NodeLoads", "the most buildings")
	loads, code = impl.NodeLoads(list, impl.MaxNodes-1, -4000, 23)
	checkRefused(t, loads, code, impl.ErrState, "NodeLoads", "the most buildings")
	// 36000000 at the limit of all, and 12000 more for each hundredth of a degree.
	for _, c := range [][2]int64{
		{0, 4500}, {36000000, 4500}, {36000001, 4499}, {36012000, 4499}, {36012001, 4498}, {impl.MaxLoad, -834},
	} {
		at, code := impl.OutdoorFor(list, c[0], 23)
		checkCode(t, at, code, c[1], impl.OK, "OutdoorFor", "the most buildings", c[0])
	}
}

func TestNodeLoads(t *testing.T) {
	a, b, c := buildingOf("a", 100, 1000, 0, 0), buildingOf("b", 20, 1000, 0, 0), buildingOf("c", 3, 1000, 0, 0)
	a.Node, b.Node, c.Node = 2, 0, 2
	list := []impl.Building{a, b, c}
	cases := []struct {
		nodes int64
		want  []int64
	}{
		{3, []int64{20, 0, 103}}, {4, []int64{20, 0, 103, 0}}, {16, append([]int64{20, 0, 103}, make([]int64, 13)...)},
	}
	for _, c := range cases {
		got, code := impl.NodeLoads(list, c.nodes, 0, 0)
		checkIndices(t, got, code, c.want, "NodeLoads", list, c.nodes)
	}
	for _, nodes := range []int64{1, 2} {
		got, code := impl.NodeLoads(list, nodes, 0, 0)
		checkRefused(t, got, code, impl.ErrState, "NodeLoads", list, nodes)
	}
	// A building that needs nothing must be at one of the nodes too, at whatever place it is.
	for place := range list {
		other := slices.Clone(list)
		other[place] = buildingOf(list[place].Id, 0, 0, 0, 0)
		other[place].Node = 3
		got, code := impl.NodeLoads(other, 3, 0, 0)
		checkRefused(t, got, code, impl.ErrState, "NodeLoads", other, 3)
	}
	for _, list := range validLists() {
		for _, nodes := range beyond(1, impl.MaxNodes) {
			got, code := impl.NodeLoads(list, nodes, 0, 0)
			checkRefused(t, got, code, impl.ErrRange, "NodeLoads", list, nodes, 0, 0)
		}
		for _, outdoor := range beyond(impl.MinOutdoor, impl.MaxOutdoor) {
			got, code := impl.NodeLoads(list, 1, outdoor, 0)
			checkRefused(t, got, code, impl.ErrRange, "NodeLoads", list, 1, outdoor, 0)
		}
		for _, hour := range beyond(0, hours-1) {
			got, code := impl.NodeLoads(list, 1, 0, hour)
			checkRefused(t, got, code, impl.ErrRange, "NodeLoads", list, 1, 0, hour)
		}
	}
}

func TestNodeLoadsAddUp(t *testing.T) {
	random := rand.New(rand.NewSource(42))
	for range 300 {
		list, outdoor, hour := randomBuildings(random), randomOutdoor(random), random.Int63n(hours)
		want := make([]int64, impl.MaxNodes)
		for _, b := range list {
			want[b.Node] += exactLoad(b, outdoor, hour)
		}
		got, code := impl.NodeLoads(list, impl.MaxNodes, outdoor, hour)
		checkIndices(t, got, code, want, "NodeLoads", list, outdoor, hour)
	}
}

func TestOutdoorFor(t *testing.T) {
	b := buildingOf("a", 1000, 1000, 100, 1500)
	b.Profile[23] = 2000
	list := []impl.Building{b}
	cases := []struct{ load, hour, want, code int64 }{
		{0, 0, 4500, impl.OK}, {999, 0, 4500, impl.OK}, {1000, 0, 4500, impl.OK}, {1001, 0, 1499, impl.OK},
		{1002, 0, 1498, impl.OK}, {2000, 0, 500, impl.OK}, {2500, 0, 0, impl.OK}, {2501, 0, -1, impl.OK},
		{6499, 0, -3999, impl.OK}, {6500, 0, -4000, impl.OK}, {6501, 0, 0, impl.ErrNotFound},
		{2000, 23, 4500, impl.OK}, {2001, 23, 1499, impl.OK}, {7500, 23, -4000, impl.OK}, {7501, 23, 0, impl.ErrNotFound},
		{impl.MaxLoad, 0, 0, impl.ErrNotFound}, {impl.MaxLoad + 1, 0, 0, impl.ErrRange}, {-1, 0, 0, impl.ErrRange},
		{0, 24, 0, impl.ErrRange}, {0, -1, 0, impl.ErrRange}, {impl.MaxLoad, 24, 0, impl.ErrRange},
	}
	for _, c := range cases {
		got, code := impl.OutdoorFor(list, c.load, c.hour)
		checkCode(t, got, code, c.want, c.code, "OutdoorFor", list, c.load, c.hour)
	}
	for _, list := range validLists() {
		for _, n := range beyond(0, impl.MaxLoad) {
			got, code := impl.OutdoorFor(list, n, 0)
			checkCode(t, got, code, 0, impl.ErrRange, "OutdoorFor", list, n, 0)
		}
		for _, n := range beyond(0, hours-1) {
			got, code := impl.OutdoorFor(list, 0, n)
			checkCode(t, got, code, 0, impl.ErrRange, "OutdoorFor", list, 0, n)
		}
	}
}

func TestOutdoorForIsTheHighestOne(t *testing.T) {
	random := rand.New(rand.NewSource(43))
	for range 300 {
		list, hour := randomBuildings(random), random.Int63n(hours)
		reached := exactLoads(list, randomOutdoor(random), hour)
		for _, load := range []int64{max(reached-1, 0), min(reached, impl.MaxLoad), min(reached+1, impl.MaxLoad), random.Int63n(10000000)} {
			at, code := impl.OutdoorFor(list, load, hour)
			switch {
			case exactLoads(list, impl.MinOutdoor, hour) < load:
				checkCode(t, at, code, 0, impl.ErrNotFound, "OutdoorFor", list, load, hour)
			case code != impl.OK || at < impl.MinOutdoor || at > impl.MaxOutdoor || exactLoads(list, at, hour) < load:
				t.Errorf("OutdoorFor(%+v, %d, %d) = %d, %d", list, load, hour, at, code)
			case at < impl.MaxOutdoor && exactLoads(list, at+1, hour) >= load:
				t.Errorf("OutdoorFor(%+v, %d, %d) = %d, but it may be warmer", list, load, hour, at)
			}
		}
	}
}

func TestWaterFor(t *testing.T) {
	cases := []struct{ load, supply, back, want, code int64 }{
		{83720, 8000, 6000, 1000, impl.OK}, {83721, 8000, 6000, 1001, impl.OK}, {83719, 8000, 6000, 1000, impl.OK},
		{0, 8000, 6000, 0, impl.OK}, {1, 8000, 6000, 1, impl.OK}, {83, 8000, 6000, 1, impl.OK}, {84, 8000, 6000, 2, impl.OK},
		{0, 20000, -5000, 0, impl.OK}, {impl.MaxLoad, 20000, -5000, 95557, impl.OK},
		// Just the greatest flow, and a little more than that.
		{418600, 8000, 7900, impl.MaxFlow, impl.OK}, {418601, 8000, 7900, 0, impl.ErrNotFound},
		{4186, 1, 0, impl.MaxFlow, impl.OK}, {4187, 1, 0, 0, impl.ErrNotFound}, {4185, -4999, -5000, 99977, impl.OK},
		{impl.MaxLoad, 18890, -5000, 99997, impl.OK}, {impl.MaxLoad, 18889, -5000, 0, impl.ErrNotFound},
		{impl.MaxLoad, 8000, 7999, 0, impl.ErrNotFound},
		{83720, 6000, 6000, 0, impl.ErrState}, {83720, 5999, 6000, 0, impl.ErrState}, {0, 6000, 6000, 0, impl.ErrState},
		{impl.MaxLoad, -5000, 20000, 0, impl.ErrState}, {0, -5000, -5000, 0, impl.ErrState},
		{-1, 6000, 6000, 0, impl.ErrRange}, {impl.MaxLoad + 1, 8000, 7999, 0, impl.ErrRange},
		{0, 20001, 20001, 0, impl.ErrRange}, {0, -5001, -5001, 0, impl.ErrRange}, {0, 8000, -5001, 0, impl.ErrRange},
	}
	for _, c := range cases {
		got, code := impl.WaterFor(c.load, c.supply, c.back)
		checkCode(t, got, code, c.want, c.code, "WaterFor", c.load, c.supply, c.back)
	}
	for _, n := range beyond(0, impl.MaxLoad) {
		got, code := impl.WaterFor(n, 8000, 6000)
		checkCode(t, got, code, 0, impl.ErrRange, "WaterFor", n, 8000, 6000)
	}
	for _, n := range beyond(impl.MinDegrees, impl.MaxDegrees) {
		got, code := impl.WaterFor(0, n, 6000)
		checkCode(t, got, code, 0, impl.ErrRange, "WaterFor", 0, n, 6000)
		got, code = impl.WaterFor(0, 8000, n)
		checkCode(t, got, code, 0, impl.ErrRange, "WaterFor", 0, 8000, n)
	}
}

func TestWaterForIsTheLeastFlow(t *testing.T) {
	random := rand.New(rand.NewSource(44))
	for range 5000 {
		load, back := random.Int63n(impl.MaxLoad+1)>>random.Intn(27), randomTemperature(random)
		supply := back + random.Int63n(impl.MaxDegrees-back+1)
		flow, code := impl.WaterFor(load, supply, back)
		carried := func(flow int64) bool { return 4186*flow*(supply-back) >= 100000*load }
		switch {
		case supply == back:
			checkCode(t, flow, code, 0, impl.ErrState, "WaterFor", load, supply, back)
		case !carried(impl.MaxFlow):
			checkCode(t, flow, code, 0, impl.ErrNotFound, "WaterFor", load, supply, back)
		case code != impl.OK || !carried(flow) || flow < 0 || flow > 0 && carried(flow-1):
			t.Errorf("WaterFor(%d, %d, %d) = %d, %d", load, supply, back, flow, code)
		}
	}
}

// wrongDays are lists that are not the outdoor temperatures of a day.
func wrongDays() [][]int64 {
	lists := [][]int64{nil, {}, {0}, make([]int64, hours-1), make([]int64, hours+1), make([]int64, 2*hours), make([]int64, 100000)}
	for _, n := range beyond(impl.MinOutdoor, impl.MaxOutdoor) {
		for _, hour := range []int{0, 11, hours - 1} {
			list := always(0)
			list[hour] = n
			lists = append(lists, list)
		}
	}
	return append(lists, append(always(0), impl.MaxOutdoor+1))
}

// checkDays checks that the functions of days refuse a list of buildings or outdoor temperatures.
func checkDays(t *testing.T, list []impl.Building, outdoors []int64, want int64) {
	t.Helper()
	sums, code := impl.ForecastOf(list, outdoors)
	checkRefused(t, sums, code, want, "ForecastOf", len(list), len(outdoors))
	heat, code := impl.HeatOf(list, outdoors)
	checkCode(t, heat, code, 0, want, "HeatOf", len(list), len(outdoors))
	if hour, load, code := impl.PeakHour(list, outdoors); hour != 0 || load != 0 || code != want {
		t.Errorf("PeakHour of %d and %d = %d, %d, %d, want the code %d", len(list), len(outdoors), hour, load, code, want)
	}
}

func TestDaysHaveOutdoorTemperatures(t *testing.T) {
	for _, outdoors := range wrongDays() {
		for _, list := range validLists() {
			checkDays(t, list, outdoors, impl.ErrOrder)
		}
		for _, b := range validBuildings() {
			loads, code := impl.DayLoads(b, outdoors)
			checkRefused(t, loads, code, impl.ErrOrder, "DayLoads", b, len(outdoors))
		}
	}
}

func TestInvalidBuildingsAreRefusedFirst(t *testing.T) {
	for _, list := range invalidLists() {
		for _, outdoors := range [][]int64{always(0), always(-4001), nil} {
			checkDays(t, list, outdoors, impl.ErrInvalid)
		}
		for _, n := range []int64{-1, 1, 2, impl.MaxLoad + 1} {
			loads, code := impl.NodeLoads(list, n, n, n)
			checkRefused(t, loads, code, impl.ErrInvalid, "NodeLoads", len(list), n)
			at, code := impl.OutdoorFor(list, n, n)
			checkCode(t, at, code, 0, impl.ErrInvalid, "OutdoorFor", len(list), n)
		}
	}
	for _, b := range invalidBuildings() {
		for _, n := range []int64{0, 23, 24, -5000} {
			load, code := impl.LoadOf(b, n, n)
			checkCode(t, load, code, 0, impl.ErrInvalid, "LoadOf", b.Id, n, n)
			loads, code := impl.DayLoads(b, always(n))
			checkRefused(t, loads, code, impl.ErrInvalid, "DayLoads", b.Id, n)
		}
		loads, code := impl.DayLoads(b, nil)
		checkRefused(t, loads, code, impl.ErrInvalid, "DayLoads", b.Id, "no temperatures")
		if got := impl.BuildingText(b); got != "" {
			t.Errorf("BuildingText(%+v) = %q", b, got)
		}
	}
}

// A range is checked before the nodes of the buildings.
func TestRangesAreCheckedBeforeNodes(t *testing.T) {
	list := mostBuildings()
	for _, r := range [][3]int64{{0, 0, 0}, {17, 0, 0}, {1, -4001, 0}, {1, 0, 24}} {
		loads, code := impl.NodeLoads(list, r[0], r[1], r[2])
		checkRefused(t, loads, code, impl.ErrRange, "NodeLoads", r)
	}
	loads, code := impl.NodeLoads(list, 15, 4500, 23)
	checkRefused(t, loads, code, impl.ErrState, "NodeLoads", 15, 4500, 23)
}

func TestBuildingsAreReadBack(t *testing.T) {
	zeros, most := strings.Repeat("0,", 23)+"0", strings.Repeat("3000,", 23)+"3000"
	texts := []string{
		"a 0,0,0,-4000 " + zeros, "abcdefghij 15,1000000,100000,4500 " + most, "house 2,10000,200,1500 " + zeros, "z9 7,1,2,-1 " + most,
		"b 0,0,0,0 0,1,2,3,4,5,6,7,8,9,10,11,12,13,14,15,16,17,18,19,20,21,22,23",
	}
	for _, s := range texts {
		b, ok := impl.ReadBuilding(s)
		if !ok || !impl.ValidBuildings([]impl.Building{b}) || impl.BuildingText(b) != s {
			t.Errorf("ReadBuilding(%q) = %+v, %v", s, b, ok)
		}
	}
	want := "house 2,10000,200,1500 500,507,514,521,528,535,542,549,556,563,570,577,584,591,598,605,612,619,626,633,640,647,654,661"
	if got := impl.BuildingText(house()); got != want {
		t.Errorf("BuildingText(%+v) = %q", house(), got)
	}
	random := rand.New(rand.NewSource(45))
	list := validBuildings()
	for range 100 {
		list = append(list, randomBuildings(random)...)
	}
	for _, b := range list {
		if got, ok := impl.ReadBuilding(impl.BuildingText(b)); !reflect.DeepEqual(got, b) || !ok {
			t.Errorf("ReadBuilding(%q) = %+v, %v", impl.BuildingText(b), got, ok)
		}
	}
}

func TestReadBuildingRefuses(t *testing.T) {
	profile := strings.Repeat("500,", 23) + "500"
	texts := append(extremeTexts(), "house", "house ", "house 2,10000,200,1500", "house 2,10000,200,1500 ", "house  "+profile)
	for _, s := range []string{
		"house 2,10000,200,1500  @", "house  2,10000,200,1500 @", " house 2,10000,200,1500 @", "house 2,10000,200,1500 @ ",
		"house 2,10000,200,1500 @\n", "house 2,10000,200,1500 @ @", "house 2,10000,200,1500 @,500", "house 2,10000,200,1500 @,",
		"house 2,10000,200,1500 ,@", "house 2,10000,200,1500\t@", "house\t2,10000,200,1500 @", "house 2,10000,200,1500,@",
		"house 2,10000,200,1500,0 @", "house 2,10000,200 @", "house - @", "house @ @", "house @", "@", "2,10000,200,1500 @",
		"House 2,10000,200,1500 @", "7a 2,10000,200,1500 @", "abcdefghijk 2,10000,200,1500 @", "ho-use 2,10000,200,1500 @",
		" 2,10000,200,1500 @", "house 02,10000,200,1500 @", "house +2,10000,200,1500 @", "house 2,10000,200,-0 @",
		"house 2, 10000,200,1500 @", "house 2;10000;200;1500 @", "house 2,10000,200,1500 0@", "house 2,10000,200,1500 -@",
		"house 16,10000,200,1500 @", "house -1,10000,200,1500 @", "house 2,1000001,200,1500 @", "house 2,-1,200,1500 @",
		"house 2,10000,100001,1500 @", "house 2,10000,-1,1500 @", "house 2,10000,200,4501 @", "house 2,10000,200,-4001 @",
	} {
		texts = append(texts, strings.ReplaceAll(s, "@", profile))
	}
	for _, s := range []string{
		"-", "500", strings.Repeat("500,", 22) + "500", strings.Repeat("500,", 24) + "500", strings.Repeat("500,", 23) + "3001",
		"3001," + strings.Repeat("500,", 22) + "500", strings.Repeat("500,", 23) + "-1", strings.Repeat("500,", 23),
		strings.Repeat("500,", 64) + "500", strings.Repeat("500,", 20000) + "500",
	} {
		texts = append(texts, "house 2,10000,200,1500 "+s)
	}
	for _, s := range texts {
		if b, ok := impl.ReadBuilding(s); !reflect.DeepEqual(b, impl.Building{}) || ok {
			t.Errorf("ReadBuilding(%q) = %+v, %v", s, b, ok)
		}
	}
}

// The other tests take their limits from the program, so these are written out.
func TestConstantsOfLoads(t *testing.T) {
	got := []int64{
		impl.HoursADay, impl.MaxBuildings, impl.MaxBase, impl.MaxSlope, impl.MaxShare, impl.MinOutdoor, impl.MaxOutdoor, impl.MaxLoad,
	}
	if want := []int64{24, 12, 1000000, 100000, 3000, -4000, 4500, 100000000}; !slices.Equal(got, want) {
		t.Errorf("the constants are %d, want %d", got, want)
	}
}
