package tests

import (
	"math/rand"
	"slices"
	"strings"
	"testing"

	"loop.example/g01011/impl"
)

// Promise 7: what is used adds up, and no scale of a forecast is better than the best one.

const (
	hourLimit  = 100000
	everyLimit = 1000
	scaleLimit = 3000
)

// readingsOf returns readings with an Hour and a Counter each.
func readingsOf(numbers ...[2]int64) []impl.Reading {
	var list []impl.Reading
	for _, n := range numbers {
		list = append(list, impl.Reading{Hour: n[0], Counter: n[1]})
	}
	return list
}

// powerReadings returns readings of each hour, from 0 on, with powers between them.
func powerReadings(powers ...int64) []impl.Reading {
	list := readingsOf([2]int64{0, 0})
	for i, power := range powers {
		list = append(list, impl.Reading{Hour: int64(i) + 1, Counter: list[i].Counter + power})
	}
	return list
}

// hourlyReadings returns as many readings as possible, one of each hour but the last one, which may be of any later hour.
func hourlyReadings(last int64) []impl.Reading {
	list := powerReadings(make([]int64, impl.MaxReadings-1)...)
	list[impl.MaxReadings-1].Hour = last
	return list
}

// widestReadings returns as many readings as possible, from the least to the greatest numbers.
func widestReadings() []impl.Reading {
	var list []impl.Reading
	for i := range int64(impl.MaxReadings) {
		list = append(list, impl.Reading{Hour: i * i * 45, Counter: i * 21276595})
	}
	list[impl.MaxReadings-1] = impl.Reading{Hour: hourLimit, Counter: impl.MaxCounter}
	return list
}

func someReadings() []impl.Reading {
	return readingsOf([2]int64{10, 100}, [2]int64{12, 300}, [2]int64{13, 300}, [2]int64{20, 310}, [2]int64{23, 311})
}

func randomReadings(random *rand.Rand) []impl.Reading {
	widest, most := 1+int64(2000)>>random.Intn(11), 1+int64(20000000)>>random.Intn(25)
	x := impl.Reading{Hour: random.Int63n(1000), Counter: random.Int63n(1000)}
	var list []impl.Reading
	for range random.Intn(impl.MaxReadings + 1) {
		list = append(list, x)
		x.Hour += 1 + random.Int63n(widest)
		x.Counter += random.Int63n(most)
	}
	return list
}

// exactPowers are the powers by their definition, in arithmetic without limits.
func exactPowers(list []impl.Reading) []int64 {
	var powers []int64
	for i := range list {
		if i > 0 {
			powers = append(powers, quotientOf(list[i].Hour-list[i-1].Hour, list[i].Counter-list[i-1].Counter))
		}
	}
	return powers
}

// exactEstimate is what a meter has shown at an hour, if this is between two readings or at one.
func exactEstimate(list []impl.Reading, hour int64) (int64, bool) {
	for i, x := range list {
		if x.Hour == hour {
			return x.Counter, true
		}
		if i > 0 && list[i-1].Hour < hour && hour < x.Hour {
			before := list[i-1]
			return before.Counter + quotientOf(x.Hour-before.Hour, x.Counter-before.Counter, hour-before.Hour), true
		}
	}
	return 0, false
}

// exactError is the sum of the absolute differences of powers and a forecast with a scale.
func exactError(powers, forecast []int64, scale int64) int64 {
	sum := int64(0)
	for i, power := range powers {
		sum += magnitude(power - quotientOf(1000, forecast[i], scale))
	}
	return sum
}

// invalidReadings are lists with one thing wrong.
func invalidReadings() [][]impl.Reading {
	a, b, c := impl.Reading{Hour: 1, Counter: 10}, impl.Reading{Hour: 2, Counter: 20}, impl.Reading{Hour: 3, Counter: 30}
	lists := [][]impl.Reading{
		// An Hour twice, or an earlier one later.
		{a, a}, {a, {Hour: 1, Counter: 11}}, {a, b, b}, {b, a}, {a, c, b}, {{Hour: 2, Counter: 10}, {Hour: 1, Counter: 10}},
		{{Hour: hourLimit, Counter: 1}, {Hour: hourLimit, Counter: 2}}, {a, b, {Hour: 1, Counter: 20}},
		// A counter that falls.
		{{Hour: 1, Counter: 11}, {Hour: 2, Counter: 10}}, {a, b, {Hour: 3, Counter: 19}}, {{Hour: 1, Counter: 30}, b, c},
		{{Hour: 0, Counter: impl.MaxCounter}, {Hour: hourLimit, Counter: 0}},
		append(hourlyReadings(47), impl.Reading{Hour: 48}), make([]impl.Reading, impl.MaxReadings+1), make([]impl.Reading, 100000),
	}
	for _, n := range beyond(0, hourLimit) {
		lists = append(lists, []impl.Reading{{Hour: n}})
	}
	for _, n := range beyond(0, impl.MaxCounter) {
		lists = append(lists, []impl.Reading{{Counter: n}})
	}
	lists = append(lists, []impl.Reading{{Hour: -1}, a, b}, []impl.Reading{a, b, {Hour: hourLimit + 1, Counter: 20}},
		[]impl.Reading{{Counter: -1}, a, b}, []impl.Reading{a, b, {Hour: 3, Counter: impl.MaxCounter + 1}})
	for place := 1; place < impl.MaxReadings; place++ {
		list := widestReadings()
		list[place].Counter = list[place-1].Counter - 1
		lists = append(lists, list)
		list = widestReadings()
		list[place].Hour = list[place-1].Hour
		lists = append(lists, list)
	}
	return lists
}

func validReadings() [][]impl.Reading {
	return [][]impl.Reading{
		nil, {}, {{}}, {{Hour: hourLimit, Counter: impl.MaxCounter}}, {{Hour: 7, Counter: 5}},
		{{}, {Hour: hourLimit, Counter: impl.MaxCounter}}, {{}, {Hour: 1, Counter: impl.MaxCounter}}, {{}, {Hour: 1}},
		{{Hour: hourLimit - 1, Counter: impl.MaxCounter}, {Hour: hourLimit, Counter: impl.MaxCounter}},
		someReadings(), hourlyReadings(47), hourlyReadings(hourLimit), widestReadings(), widestReadings()[1:],
	}
}

func TestValidReadings(t *testing.T) {
	random := rand.New(rand.NewSource(60))
	lists := validReadings()
	for range 200 {
		lists = append(lists, randomReadings(random))
	}
	for _, list := range lists {
		if !impl.ValidReadings(list) {
			t.Errorf("ValidReadings(%v) = false", list)
		}
	}
	for _, list := range invalidReadings() {
		if impl.ValidReadings(list) {
			t.Errorf("ValidReadings(%v) = true", list[:min(len(list), 50)])
		}
	}
}

// checkReadings compares readings and their code with what they should be; with a code there are none.
func checkReadings(t *testing.T, got []impl.Reading, code int64, want []impl.Reading, wantCode int64, what string, arguments ...any) {
	t.Helper()
	if !slices.Equal(got, want) || code != wantCode {
		t.Errorf("%s%v = %v, %d, want %v, %d", what, arguments, got, code, want, wantCode)
	}
}

func TestAddReading(t *testing.T) {
	list := readingsOf([2]int64{10, 100}, [2]int64{12, 300}, [2]int64{13, 300})
	cases := []struct {
		x     impl.Reading
		place int
		code  int64
	}{
		{impl.Reading{Hour: 0, Counter: 0}, 0, impl.OK}, {impl.Reading{Hour: 9, Counter: 100}, 0, impl.OK},
		{impl.Reading{Hour: 11, Counter: 100}, 1, impl.OK}, {impl.Reading{Hour: 11, Counter: 300}, 1, impl.OK},
		{impl.Reading{Hour: 11, Counter: 200}, 1, impl.OK}, {impl.Reading{Hour: 14, Counter: 300}, 3, impl.OK},
		{impl.Reading{Hour: hourLimit, Counter: impl.MaxCounter}, 3, impl.OK},
		// The counter would fall at the added reading or behind it.
		{impl.Reading{Hour: 9, Counter: 101}, 0, impl.ErrState}, {impl.Reading{Hour: 11, Counter: 99}, 0, impl.ErrState},
		{impl.Reading{Hour: 11, Counter: 301}, 0, impl.ErrState}, {impl.Reading{Hour: 14, Counter: 299}, 0, impl.ErrState},
		{impl.Reading{Hour: 0, Counter: impl.MaxCounter}, 0, impl.ErrState}, {impl.Reading{Hour: hourLimit}, 0, impl.ErrState},
		// There is one of the hour, whatever it shows.
		{list[0], 0, impl.ErrExists}, {list[1], 0, impl.ErrExists}, {list[2], 0, impl.ErrExists},
		{impl.Reading{Hour: 12, Counter: 299}, 0, impl.ErrExists}, {impl.Reading{Hour: 13, Counter: 0}, 0, impl.ErrExists},
	}
	for _, c := range cases {
		var want []impl.Reading
		if c.code == impl.OK {
			want = slices.Insert(slices.Clone(list), c.place, c.x)
		}
		got, code := impl.AddReading(list, c.x)
		checkReadings(t, got, code, want, c.code, "AddReading", list, c.x)
	}
	for _, x := range []impl.Reading{{}, {Hour: hourLimit, Counter: impl.MaxCounter}, {Hour: 5}} {
		got, code := impl.AddReading(nil, x)
		checkReadings(t, got, code, []impl.Reading{x}, impl.OK, "AddReading", "none", x)
	}
}

func TestAddReadingErrorsInOrder(t *testing.T) {
	full := hourlyReadings(50)
	for _, list := range validReadings() {
		for _, n := range beyond(0, hourLimit) {
			got, code := impl.AddReading(list, impl.Reading{Hour: n})
			checkReadings(t, got, code, nil, impl.ErrRange, "AddReading", list, n)
		}
		for _, n := range beyond(0, impl.MaxCounter) {
			got, code := impl.AddReading(list, impl.Reading{Hour: 7, Counter: n})
			checkReadings(t, got, code, nil, impl.ErrRange, "AddReading", list, 7, n)
		}
	}
	cases := []struct {
		x    impl.Reading
		code int64
	}{
		// There is one, the list is full, and the counter would fall: each counts before the next one.
		{impl.Reading{Hour: 46, Counter: 0}, impl.ErrExists}, {impl.Reading{Hour: 46, Counter: 9}, impl.ErrExists},
		{impl.Reading{Hour: 48, Counter: 0}, impl.ErrFull}, {impl.Reading{Hour: 48, Counter: 9}, impl.ErrFull},
		{impl.Reading{Hour: 51, Counter: 0}, impl.ErrFull}, {impl.Reading{Hour: 51, Counter: -1}, impl.ErrRange},
	}
	for _, c := range cases {
		got, code := impl.AddReading(full, c.x)
		checkReadings(t, got, code, nil, c.code, "AddReading", "a full list", c.x)
	}
	got, code := impl.AddReading(full[1:], impl.Reading{})
	checkReadings(t, got, code, full, impl.OK, "AddReading", "one less", 0)
}

func TestReadingsAreAddedAtTheirPlaces(t *testing.T) {
	random := rand.New(rand.NewSource(61))
	for range 200 {
		list := randomReadings(random)
		var added []impl.Reading
		code := int64(impl.OK)
		for _, i := range random.Perm(len(list)) {
			added, code = impl.AddReading(added, list[i])
			if code != impl.OK {
				t.Fatalf("AddReading(%v) gives %d", list[i], code)
			}
		}
		checkReadings(t, added, code, list, impl.OK, "AddReading", "all in any order")
	}
}

func TestEstimateAt(t *testing.T) {
	list := someReadings()
	cases := []struct{ hour, want, code int64 }{
		{10, 100, impl.OK}, {11, 200, impl.OK}, {12, 300, impl.OK}, {13, 300, impl.OK}, {20, 310, impl.OK}, {23, 311, impl.OK},
		// Seven hours with 10 watt hours, and three with one, are rounded to the nearest ones.
		{14, 301, impl.OK}, {15, 303, impl.OK}, {16, 304, impl.OK}, {17, 306, impl.OK}, {18, 307, impl.OK}, {19, 309, impl.OK},
		{21, 310, impl.OK}, {22, 311, impl.OK},
		{9, 0, impl.ErrNotFound}, {24, 0, impl.ErrNotFound}, {0, 0, impl.ErrNotFound}, {hourLimit, 0, impl.ErrNotFound},
	}
	for _, c := range cases {
		got, code := impl.EstimateAt(list, c.hour)
		checkCode(t, got, code, c.want, c.code, "EstimateAt", list, c.hour)
	}
	// Numbers beyond the limits of Blend, and a half that is rounded up.
	wide := readingsOf([2]int64{0, 1}, [2]int64{hourLimit, impl.MaxCounter})
	for _, c := range [][2]int64{{0, 1}, {1, 10001}, {50000, 500000001}, {99999, 999990000}, {hourLimit, impl.MaxCounter}} {
		got, code := impl.EstimateAt(wide, c[0])
		checkCode(t, got, code, c[1], impl.OK, "EstimateAt", wide, c[0])
	}
	for _, list := range validReadings() {
		for _, n := range beyond(0, hourLimit) {
			got, code := impl.EstimateAt(list, n)
			checkCode(t, got, code, 0, impl.ErrNotFound, "EstimateAt", list, n)
		}
	}
	one := readingsOf([2]int64{7, 5})
	for _, c := range []struct{ hour, want, code int64 }{{7, 5, impl.OK}, {6, 0, impl.ErrNotFound}, {8, 0, impl.ErrNotFound}} {
		got, code := impl.EstimateAt(one, c.hour)
		checkCode(t, got, code, c.want, c.code, "EstimateAt", one, c.hour)
	}
	got, code := impl.EstimateAt(nil, 0)
	checkCode(t, got, code, 0, impl.ErrNotFound, "EstimateAt", "none", 0)
}

func TestEstimatesAreOnTheLines(t *testing.T) {
	random := rand.New(rand.NewSource(62))
	lists := validReadings()
	for range 100 {
		lists = append(lists, randomReadings(random))
	}
	for _, list := range lists {
		hours := []int64{0, hourLimit, random.Int63n(hourLimit)}
		for i, x := range list {
			hours = append(hours, x.Hour-1, x.Hour, x.Hour+1)
			if i > 0 {
				hours = append(hours, list[i-1].Hour+random.Int63n(x.Hour-list[i-1].Hour), (list[i-1].Hour+x.Hour)/2)
			}
		}
		for _, hour := range hours {
			want, known := exactEstimate(list, hour)
			wantCode := int64(impl.OK)
			if !known {
				wantCode = impl.ErrNotFound
			}
			got, code := impl.EstimateAt(list, hour)
			checkCode(t, got, code, want, wantCode, "EstimateAt", list, hour)
		}
	}
}

func TestUsedBetween(t *testing.T) {
	list := someReadings()
	cases := []struct{ from, until, want, code int64 }{
		{10, 12, 200, impl.OK}, {10, 11, 100, impl.OK}, {11, 12, 100, impl.OK}, {12, 13, 0, impl.OK}, {10, 23, 211, impl.OK},
		{11, 14, 101, impl.OK}, {14, 15, 2, impl.OK}, {15, 16, 1, impl.OK}, {21, 22, 1, impl.OK},
		{10, 10, 0, impl.OK}, {11, 11, 0, impl.OK}, {23, 23, 0, impl.OK},
		{9, 12, 0, impl.ErrNotFound}, {12, 24, 0, impl.ErrNotFound}, {9, 24, 0, impl.ErrNotFound}, {9, 9, 0, impl.ErrNotFound},
		{24, 24, 0, impl.ErrNotFound}, {-1, 12, 0, impl.ErrNotFound}, {12, hourLimit + 1, 0, impl.ErrNotFound},
		// The hours are in the wrong order, whether they are between readings or not.
		{12, 11, 0, impl.ErrRange}, {23, 10, 0, impl.ErrRange}, {24, 23, 0, impl.ErrRange}, {9, 8, 0, impl.ErrRange}, {24, 9, 0, impl.ErrRange},
	}
	for _, c := range cases {
		got, code := impl.UsedBetween(list, c.from, c.until)
		checkCode(t, got, code, c.want, c.code, "UsedBetween", list, c.from, c.until)
	}
	for _, c := range []struct{ from, until, code int64 }{{0, 0, impl.ErrNotFound}, {0, 1, impl.ErrNotFound}, {1, 0, impl.ErrRange}} {
		got, code := impl.UsedBetween(nil, c.from, c.until)
		checkCode(t, got, code, 0, c.code, "UsedBetween", "none", c.from, c.until)
	}
	for _, n := range beyond(0, hourLimit) {
		got, code := impl.UsedBetween(widestReadings(), n, n)
		checkCode(t, got, code, 0, impl.ErrNotFound, "UsedBetween", "the widest", n, n)
	}
	got, code := impl.UsedBetween(widestReadings(), 0, hourLimit)
	checkCode(t, got, code, impl.MaxCounter, impl.OK, "UsedBetween", "the widest", 0, hourLimit)
}

func TestWhatIsUsedAddsUp(t *testing.T) {
	random := rand.New(rand.NewSource(63))
	for range 500 {
		list := randomReadings(random)
		if len(list) == 0 {
			continue
		}
		start, end := list[0], list[len(list)-1]
		hours := []int64{start.Hour, end.Hour}
		for range 8 {
			hours = append(hours, start.Hour+random.Int63n(end.Hour-start.Hour+1))
		}
		slices.Sort(hours)
		sum := int64(0)
		for i := range hours[1:] {
			used, code := impl.UsedBetween(list, hours[i], hours[i+1])
			before, _ := exactEstimate(list, hours[i])
			after, _ := exactEstimate(list, hours[i+1])
			checkCode(t, used, code, after-before, impl.OK, "UsedBetween", list, hours[i], hours[i+1])
			if used < 0 {
				t.Errorf("%d has been used from %d to %d by %v", used, hours[i], hours[i+1], list)
			}
			sum += used
		}
		if sum != end.Counter-start.Counter {
			t.Errorf("the parts of %v sum up to %d", list, sum)
		}
	}
}

func TestPowersOf(t *testing.T) {
	cases := []struct {
		list []impl.Reading
		want []int64
	}{
		{nil, nil}, {readingsOf([2]int64{7, 5}), nil}, {readingsOf([2]int64{0, 100}, [2]int64{2, 300}), []int64{100}},
		{someReadings(), []int64{100, 0, 1, 0}},
		// Halves are rounded up, and less than a half down.
		{readingsOf([2]int64{0, 0}, [2]int64{2, 1}, [2]int64{4, 4}, [2]int64{7, 5}, [2]int64{10, 7}), []int64{1, 2, 0, 1}},
		{readingsOf([2]int64{0, 0}, [2]int64{1, impl.MaxCounter}, [2]int64{2, impl.MaxCounter}), []int64{impl.MaxCounter, 0}},
		{readingsOf([2]int64{0, 0}, [2]int64{hourLimit, impl.MaxCounter}), []int64{10000}},
		{readingsOf([2]int64{0, 0}, [2]int64{hourLimit, 50000}), []int64{1}}, {readingsOf([2]int64{0, 0}, [2]int64{hourLimit, 49999}), []int64{0}},
		{hourlyReadings(hourLimit), make([]int64, impl.MaxReadings-1)},
	}
	for _, c := range cases {
		got, code := impl.PowersOf(c.list)
		checkIndices(t, got, code, c.want, "PowersOf", c.list)
	}
	random := rand.New(rand.NewSource(64))
	for range 300 {
		list := randomReadings(random)
		got, code := impl.PowersOf(list)
		checkIndices(t, got, code, exactPowers(list), "PowersOf", list)
	}
}

func TestOddReadings(t *testing.T) {
	powers := []int64{100, 0, 1, 0}
	if got, _ := impl.PowersOf(someReadings()); !slices.Equal(got, powers) {
		t.Fatalf("the powers are %d", got)
	}
	cases := []struct {
		list []impl.Reading
		most int64
		want []int64
	}{
		// A power is odd only if it is greater than most, and one of 0 only if the counters are equal.
		{someReadings(), 100, []int64{2}}, {someReadings(), 99, []int64{1, 2}}, {someReadings(), 1, []int64{1, 2}},
		{someReadings(), 0, []int64{1, 2, 3}}, {someReadings(), 101, []int64{2}}, {someReadings(), impl.MaxValue, []int64{2}},
		{nil, 0, nil}, {readingsOf([2]int64{7, 5}), 0, nil}, {readingsOf([2]int64{0, 0}, [2]int64{1, 0}), impl.MaxCounter, []int64{1}},
		{readingsOf([2]int64{0, 0}, [2]int64{1, impl.MaxCounter}), impl.MaxCounter, nil},
		{readingsOf([2]int64{0, 0}, [2]int64{1, impl.MaxCounter}), impl.MaxCounter - 1, []int64{1}},
		{hourlyReadings(hourLimit), 0, first(impl.MaxReadings)[1:]}, {widestReadings(), 0, first(impl.MaxReadings)[1:]},
	}
	for _, c := range cases {
		got, code := impl.OddReadings(c.list, c.most)
		checkIndices(t, got, code, c.want, "OddReadings", c.list, c.most)
	}
	random := rand.New(rand.NewSource(65))
	for range 300 {
		list := randomReadings(random)
		powers := exactPowers(list)
		for _, most := range append(powers, 0, 1) {
			var want []int64
			for i, power := range powers {
				if power > most || list[i].Counter == list[i+1].Counter {
					want = append(want, int64(i+1))
				}
			}
			got, code := impl.OddReadings(list, most)
			checkIndices(t, got, code, want, "OddReadings", list, most)
		}
	}
	for _, list := range validReadings() {
		for _, most := range []int64{-1, -2, -impl.MaxValue, -1 << 63} {
			got, code := impl.OddReadings(list, most)
			checkRefused(t, got, code, impl.ErrRange, "OddReadings", list, most)
		}
	}
}

// hoursFrom returns as many hours as there are, each one so much later than the one before it.
func hoursFrom(start, every, count int64) []int64 {
	var list []int64
	for i := range count {
		list = append(list, start+i*every)
	}
	return list
}

func TestMissingHours(t *testing.T) {
	twoAt := func(from, until int64) []impl.Reading { return readingsOf([2]int64{from, 1}, [2]int64{until, 1}) }
	cases := []struct {
		list  []impl.Reading
		every int64
		want  []int64
	}{
		{nil, 1, nil}, {nil, everyLimit, nil}, {readingsOf([2]int64{7, 5}), 1, nil}, {twoAt(7, 8), 1, nil},
		{someReadings(), 1, []int64{11, 14, 15, 16, 17, 18, 19, 21, 22}}, {someReadings(), 2, []int64{14, 16, 18, 22}},
		// The last reading may be at one of the hours, or between two of them.
		{someReadings(), 3, []int64{16, 19, 22}}, {someReadings(), 12, []int64{22}}, {someReadings(), 13, nil}, {someReadings(), 14, nil},
		{twoAt(5, 1004), everyLimit, nil}, {twoAt(5, 1005), everyLimit, nil}, {twoAt(5, 1006), everyLimit, []int64{1005}},
		{twoAt(7, 10), 1, []int64{8, 9}}, {twoAt(7, 10), 2, []int64{9}}, {twoAt(7, 10), 3, nil}, {hourlyReadings(47), 1, nil},
		// Just as many as a list may have.
		{twoAt(0, 65), 1, hoursFrom(1, 1, 64)}, {twoAt(3, 132), 2, hoursFrom(5, 2, 64)}, {twoAt(3, 133), 2, hoursFrom(5, 2, 64)},
		{twoAt(0, 65000), everyLimit, hoursFrom(1000, 1000, 64)}, {twoAt(35000, hourLimit), everyLimit, hoursFrom(36000, 1000, 64)},
		{hourlyReadings(111), 1, hoursFrom(47, 1, 64)}, {twoAt(99935, hourLimit), 1, hoursFrom(99936, 1, 64)},
	}
	for _, c := range cases {
		got, code := impl.MissingHours(c.list, c.every)
		checkIndices(t, got, code, c.want, "MissingHours", c.list, c.every)
	}
	// One more than a list may have, and many more.
	full := []struct {
		list  []impl.Reading
		every int64
	}{
		{twoAt(0, 66), 1}, {twoAt(3, 134), 2}, {twoAt(0, 65001), everyLimit}, {twoAt(0, hourLimit), 1}, {twoAt(0, hourLimit), everyLimit},
		{hourlyReadings(112), 1}, {hourlyReadings(113), 1}, {hourlyReadings(200), 1}, {hourlyReadings(hourLimit), 1}, {widestReadings(), 1},
	}
	for _, c := range full {
		got, code := impl.MissingHours(c.list, c.every)
		checkRefused(t, got, code, impl.ErrFull, "MissingHours", c.list, c.every)
	}
	for _, list := range append(validReadings(), twoAt(0, hourLimit)) {
		for _, every := range append(beyond(1, everyLimit), -1) {
			got, code := impl.MissingHours(list, every)
			checkRefused(t, got, code, impl.ErrRange, "MissingHours", list, every)
		}
	}
}

func TestMissingHoursHaveNoReadings(t *testing.T) {
	random := rand.New(rand.NewSource(66))
	refused := 0
	for range 1000 {
		list, every := randomReadings(random), 1+random.Int63n(everyLimit)>>random.Intn(11)
		var want []int64
		for hour := int64(0); len(list) > 0 && hour < list[len(list)-1].Hour; hour++ {
			has := slices.ContainsFunc(list, func(x impl.Reading) bool { return x.Hour == hour })
			if hour > list[0].Hour && (hour-list[0].Hour)%every == 0 && !has {
				want = append(want, hour)
			}
		}
		got, code := impl.MissingHours(list, every)
		if len(want) > impl.MaxList {
			refused++
			checkRefused(t, got, code, impl.ErrFull, "MissingHours", list, every)
		} else {
			checkIndices(t, got, code, want, "MissingHours", list, every)
		}
	}
	if refused < 100 || refused > 900 {
		t.Errorf("%d lists have too many missing hours", refused)
	}
}

func TestForecastError(t *testing.T) {
	cases := []struct {
		powers, forecast []int64
		want             int64
	}{
		{nil, nil, 0}, {[]int64{7}, []int64{7}, 0}, {[]int64{7}, []int64{9}, 2}, {[]int64{7}, []int64{4}, 3}, {[]int64{7}, []int64{0}, 7},
		// Differences in both directions do not cancel out.
		{[]int64{100, 0}, []int64{50, 0}, 50}, {[]int64{100, 0}, []int64{90, 10}, 20}, {[]int64{3, 5, 8}, []int64{5, 3, 8}, 4},
		{[]int64{impl.MaxCounter}, []int64{0}, impl.MaxCounter}, {[]int64{0}, []int64{impl.MaxCounter}, impl.MaxCounter},
		{make([]int64, 47), slices.Repeat([]int64{impl.MaxCounter}, 47), 47 * impl.MaxCounter},
	}
	for _, c := range cases {
		got, code := impl.ForecastError(powerReadings(c.powers...), c.forecast)
		checkCode(t, got, code, c.want, impl.OK, "ForecastError", c.powers, c.forecast)
	}
	got, code := impl.ForecastError(nil, nil)
	checkCode(t, got, code, 0, impl.OK, "ForecastError", "none", "none")
	// The powers of readings several hours apart count once each.
	got, code = impl.ForecastError(someReadings(), []int64{90, 1, 3, 4})
	checkCode(t, got, code, 17, impl.OK, "ForecastError", someReadings())
}

func TestBestScale(t *testing.T) {
	const great = 100000000
	cases := []struct {
		powers, forecast []int64
		want             int64
	}{
		// Several scales are as good as each other: the least one counts.
		{nil, nil, 0}, {[]int64{0}, []int64{0}, 0}, {[]int64{7}, []int64{0}, 0}, {[]int64{0}, []int64{5}, 0}, {[]int64{100}, []int64{100}, 995},
		{[]int64{100, 0}, []int64{50, 0}, 1990}, {[]int64{1}, []int64{1}, 500}, {[]int64{0, 1}, []int64{1, 1}, 0}, {[]int64{1, 0, 1}, []int64{1, 1, 1}, 500},
		{[]int64{1000, 2000}, []int64{1000, 1000}, 1000}, {[]int64{2000, 1000}, []int64{1000, 1000}, 1000},
		{[]int64{0, 1000, 2000}, []int64{1000, 1000, 1000}, 1000}, {[]int64{500, 1000, 2000}, []int64{1000, 1000, 1000}, 1000},
		// The best scale is at a limit, or would be beyond it.
		{[]int64{3000}, []int64{1000}, 3000}, {[]int64{2999}, []int64{1000}, 2999}, {[]int64{impl.MaxCounter}, []int64{1000}, 3000},
		{[]int64{impl.MaxCounter}, []int64{1}, 2500}, {[]int64{1}, []int64{1000}, 1}, {[]int64{1}, []int64{impl.MaxCounter}, 0},
		// A forecast times the scale is beyond the limits of DivRound here.
		{[]int64{0, 3 * great}, []int64{10 * great, great}, 0}, {[]int64{10 * great}, []int64{10 * great}, 1000},
		{[]int64{10 * great}, []int64{4 * great}, 2500}, {[]int64{10 * great, 0}, []int64{4 * great, 1}, 2500},
	}
	for _, c := range cases {
		list := powerReadings(c.powers...)
		got, code := impl.BestScale(list, c.forecast)
		checkCode(t, got, code, c.want, impl.OK, "BestScale", c.powers, c.forecast)
	}
	got, code := impl.BestScale(nil, nil)
	checkCode(t, got, code, 0, impl.OK, "BestScale", "none", "none")
}

// randomForecast returns a forecast that is near to powers, or not.
func randomForecast(random *rand.Rand, powers []int64) []int64 {
	factor, spread := random.Int63n(4000), 1+random.Int63n(2000)
	var forecast []int64
	for _, power := range powers {
		switch random.Intn(4) {
		case 0:
			forecast = append(forecast, random.Int63n(impl.MaxCounter+1)>>random.Intn(30))
		default:
			forecast = append(forecast, min(power*factor/1000+random.Int63n(spread), impl.MaxCounter))
		}
	}
	return forecast
}

func TestNoScaleIsBetterThanTheBestOne(t *testing.T) {
	random := rand.New(rand.NewSource(67))
	for range 60 {
		list := randomReadings(random)
		list = list[:min(len(list), random.Intn(14))]
		powers := exactPowers(list)
		forecast := randomForecast(random, powers)
		best, least := int64(0), exactError(powers, forecast, 0)
		for scale := int64(1); scale <= scaleLimit; scale++ {
			if sum := exactError(powers, forecast, scale); sum < least {
				best, least = scale, sum
			}
		}
		got, code := impl.BestScale(list, forecast)
		checkCode(t, got, code, best, impl.OK, "BestScale", list, forecast)
		wrong, code := impl.ForecastError(list, forecast)
		checkCode(t, wrong, code, exactError(powers, forecast, 1000), impl.OK, "ForecastError", list, forecast)
		if least > wrong {
			t.Errorf("the scale %d of %d is worse than none", got, forecast)
		}
	}
}

func TestForecastsHaveAPowerForEach(t *testing.T) {
	refuse := func(list []impl.Reading, forecast []int64, want int64) {
		t.Helper()
		got, code := impl.ForecastError(list, forecast)
		checkCode(t, got, code, 0, want, "ForecastError", len(list), forecast)
		got, code = impl.BestScale(list, forecast)
		checkCode(t, got, code, 0, want, "BestScale", len(list), forecast)
	}
	for _, list := range validReadings() {
		powers := exactPowers(list)
		refuse(list, append(slices.Clone(powers), 0), impl.ErrOrder)
		refuse(list, make([]int64, len(powers)+100000), impl.ErrOrder)
		if len(powers) == 0 {
			continue
		}
		refuse(list, nil, impl.ErrOrder)
		refuse(list, powers[1:], impl.ErrOrder)
		for _, n := range beyond(0, impl.MaxCounter) {
			for _, place := range []int{0, len(powers) / 2, len(powers) - 1} {
				forecast := slices.Clone(powers)
				forecast[place] = n
				refuse(list, forecast, impl.ErrOrder)
			}
		}
	}
	for _, list := range invalidReadings() {
		for _, forecast := range [][]int64{nil, {0}, {-1}, make([]int64, max(len(list)-1, 0))} {
			refuse(list, forecast, impl.ErrInvalid)
		}
	}
}

func TestPeakHours(t *testing.T) {
	list := powerReadings(5, 9, 5, 0, 9, 5, 7)
	for count, want := range [][]int64{
		nil, {2}, {2, 5}, {2, 5, 7}, {1, 2, 5, 7}, {1, 2, 3, 5, 7}, {1, 2, 3, 5, 6, 7}, {1, 2, 3, 4, 5, 6, 7},
	} {
		got, code := impl.PeakHours(list, int64(count))
		checkIndices(t, got, code, want, "PeakHours", list, count)
	}
	// The hours are those at which the powers end, and rounded powers are equal.
	cases := []struct {
		list  []impl.Reading
		count int64
		want  []int64
	}{
		{someReadings(), 1, []int64{12}}, {someReadings(), 2, []int64{12, 20}}, {someReadings(), 3, []int64{12, 13, 20}},
		{someReadings(), 4, []int64{12, 13, 20, 23}}, {nil, 0, nil}, {readingsOf([2]int64{7, 5}), 0, nil},
		{readingsOf([2]int64{0, 0}, [2]int64{4, 5}, [2]int64{7, 9}, [2]int64{9, 11}), 1, []int64{4}},
		{hourlyReadings(hourLimit), 3, []int64{1, 2, 3}}, {hourlyReadings(hourLimit), 47, append(hoursFrom(1, 1, 46), hourLimit)},
	}
	for _, c := range cases {
		got, code := impl.PeakHours(c.list, c.count)
		checkIndices(t, got, code, c.want, "PeakHours", c.list, c.count)
	}
	for _, list := range validReadings() {
		for _, n := range beyond(0, int64(len(exactPowers(list)))) {
			got, code := impl.PeakHours(list, n)
			checkRefused(t, got, code, impl.ErrRange, "PeakHours", list, n)
		}
	}
}

func TestPeakHoursAreTheGreatestOnes(t *testing.T) {
	random := rand.New(rand.NewSource(68))
	for range 200 {
		list := randomReadings(random)
		powers := exactPowers(list)
		var want []int64
		left := slices.Clone(powers)
		for count := range int64(len(powers) + 1) {
			got, code := impl.PeakHours(list, count)
			checkIndices(t, got, code, want, "PeakHours", list, count)
			if count < int64(len(powers)) {
				next := slices.Index(left, slices.Max(left))
				left[next] = -1
				want = append(want, list[next+1].Hour)
				slices.Sort(want)
			}
		}
	}
}

func TestInvalidReadingsAreRefusedFirst(t *testing.T) {
	for _, list := range invalidReadings() {
		for _, n := range []int64{-1, 0, 1, 2, everyLimit + 1, -impl.MaxValue} {
			more, code := impl.AddReading(list, impl.Reading{Hour: n, Counter: n})
			checkReadings(t, more, code, nil, impl.ErrInvalid, "AddReading", len(list), n)
			used, code := impl.UsedBetween(list, 1, n)
			checkCode(t, used, code, 0, impl.ErrInvalid, "UsedBetween", len(list), 1, n)
			counter, code := impl.EstimateAt(list, n)
			checkCode(t, counter, code, 0, impl.ErrInvalid, "EstimateAt", len(list), n)
			odd, code := impl.OddReadings(list, n)
			checkRefused(t, odd, code, impl.ErrInvalid, "OddReadings", len(list), n)
			missing, code := impl.MissingHours(list, n)
			checkRefused(t, missing, code, impl.ErrInvalid, "MissingHours", len(list), n)
			hours, code := impl.PeakHours(list, n)
			checkRefused(t, hours, code, impl.ErrInvalid, "PeakHours", len(list), n)
		}
		powers, code := impl.PowersOf(list)
		checkRefused(t, powers, code, impl.ErrInvalid, "PowersOf", len(list))
		if got := impl.ReadingsText(list); got != "" {
			t.Errorf("ReadingsText of invalid readings = %q", got)
		}
	}
}

func TestReadingsAreReadBack(t *testing.T) {
	cases := []struct {
		list []impl.Reading
		text string
	}{
		{nil, ""}, {readingsOf([2]int64{0, 0}), "0:0"}, {someReadings(), "10:100 12:300 13:300 20:310 23:311"},
		{readingsOf([2]int64{0, 100}, [2]int64{2, 300}, [2]int64{3, 300}), "0:100 2:300 3:300"},
		{readingsOf([2]int64{hourLimit - 1, 0}, [2]int64{hourLimit, impl.MaxCounter}), "99999:0 100000:1000000000"},
	}
	for _, c := range cases {
		if got := impl.ReadingsText(c.list); got != c.text {
			t.Errorf("ReadingsText(%v) = %q, want %q", c.list, got, c.text)
		}
		if got, ok := impl.ReadReadings(c.text); !slices.Equal(got, c.list) || !ok {
			t.Errorf("ReadReadings(%q) = %v, %v, want %v", c.text, got, ok, c.list)
		}
	}
	random := rand.New(rand.NewSource(69))
	lists := validReadings()
	for range 300 {
		lists = append(lists, randomReadings(random))
	}
	for _, list := range lists {
		text := impl.ReadingsText(list)
		if got, ok := impl.ReadReadings(text); !slices.Equal(got, list) || !ok {
			t.Errorf("ReadReadings(%q) = %v, %v, want %v", text, got, ok, list)
		}
	}
}

func TestReadReadingsRefuses(t *testing.T) {
	tooMany := impl.ReadingsText(hourlyReadings(47)) + " 48:0"
	texts := []string{
		"0", ":", "0:", ":0", "0:0:0", "0::0", "::", "0;0", "0 0", "0: 0", "0 :0", " 0:0", "0:0 ", " ", "  ", "0:0  1:0", "0:0 1", "0:0 :",
		"0:0,1:0", "0:0\t1:0", "0:0\n", "\n", "0:0\n1:0", "a:0", "0:a", "0:0 a", "00:0", "0:00", "01:5", "1:05", "+1:5", "1:+5", "-0:5", "1:-0",
		"-1:5", "1:-5", "1.0:5", "0x1:5", "1_0:5", "100001:0", "0:1000000001", "1000000000000000000:0", "0:9223372036854775808",
		"1:5 1:5", "1:5 1:6", "2:5 1:5", "1:5 2:4", "1:5 3:7 2:6", "0:0 1:0 2:0 2:0", "-", "0:-",
		tooMany, tooMany + " ", tooMany + " 49:0", strings.Repeat("0:0 ", 50000), strings.Repeat("1", 50000) + ":0", "1\u00a0:0", "１:0",
	}
	// Only the empty text of these is one of readings.
	for _, s := range append(texts, extremeTexts()[1:]...) {
		if got, ok := impl.ReadReadings(s); len(got) != 0 || ok {
			t.Errorf("ReadReadings(%q) = %v, %v", s[:min(len(s), 1000)], got, ok)
		}
	}
}

// The other tests take their limits from the program, so these are written out.
func TestConstantsOfMeters(t *testing.T) {
	if got := []int64{impl.MaxReadings, impl.MaxCounter}; !slices.Equal(got, []int64{48, 1000000000}) {
		t.Errorf("the constants are %d", got)
	}
}
