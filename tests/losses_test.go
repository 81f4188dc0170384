package tests

import (
	"math/rand"
	"slices"
	"testing"

	"loop.example/g01011/impl"
)

// What pipes and networks lose, and what shares of it the pipes have.

const monthsAYear = 12

// losingWatts returns a network of pipes between two nodes that lose so many watts each, at most 5000, if the water is
// 1 degree warmer than the ground.
func losingWatts(watts ...int64) impl.Network {
	n := networkOf(2, slices.Repeat([][2]int64{{0, 1}}, len(watts))...)
	for k, w := range watts {
		n.Pipes[k].Length, n.Pipes[k].Loss = 1000, w
	}
	return n
}

// exampleNetwork has two pipes like the one of the document's example.
func exampleNetwork() impl.Network {
	n := losingWatts(500, 500)
	n.Pipes[0].Length, n.Pipes[1].Length = 100, 100
	return n
}

// randomPipes returns a network with as many pipes of all kinds.
func randomPipes(random *rand.Rand, count int) impl.Network {
	n := losingWatts(make([]int64, count)...)
	for k, old := range n.Pipes {
		p := randomPipe(random)
		p.Id, p.From, p.To = old.Id, old.From, old.To
		// Some pipes are equal in all that matters for losses.
		if k > 0 && random.Intn(4) == 0 {
			p.Length, p.Loss = n.Pipes[k-1].Length, n.Pipes[k-1].Loss
		}
		if random.Intn(6) == 0 {
			p.Loss = 0
		}
		n.Pipes[k] = p
	}
	return n
}

// exactLoss is what a pipe loses by the definition.
func exactLoss(p impl.Pipe, warm, ground int64) int64 {
	return quotientOf(100000, p.Loss, p.Length, warm-ground)
}

func exactNetworkLoss(n impl.Network, warm, ground int64) int64 {
	sum := int64(0)
	for _, p := range n.Pipes {
		sum += exactLoss(p, warm, ground)
	}
	return sum
}

// exactShares are the shares by the definition.
func exactShares(n impl.Network, warm, ground int64) []int64 {
	shares, sum := make([]int64, len(n.Pipes)), int64(0)
	for _, p := range n.Pipes {
		sum += magnitude(exactLoss(p, warm, ground))
	}
	for k, p := range n.Pipes {
		if sum > 0 {
			shares[k] = quotientOf(sum, 1000, magnitude(exactLoss(p, warm, ground)))
		}
	}
	return shares
}

// exactYear is the loss of a year by the definition.
func exactYear(n impl.Network, warms, grounds []int64) int64 {
	sum := int64(0)
	for month, warm := range warms {
		sum += exactNetworkLoss(n, warm, grounds[month])
	}
	return quotientOf(1000, sum, 730)
}

// months returns the same number for each month.
func months(number int64) []int64 { return slices.Repeat([]int64{number}, monthsAYear) }

// monthsWith returns months that begin with some numbers, and are 0 then.
func monthsWith(numbers ...int64) []int64 {
	list := months(0)
	copy(list, numbers)
	return list
}

func randomMonths(random *rand.Rand) []int64 {
	list := months(0)
	for month := range list {
		list[month] = randomTemperature(random)
	}
	return list
}

func TestRangeLoss(t *testing.T) {
	cases := []struct {
		p                  impl.Pipe
		warm, ground, want int64
	}{
		{pipeOf(100, 100, 500), 6000, 0, 3000}, {pipeOf(100, 100, 500), 0, 6000, -3000}, {pipeOf(100, 20, 500), 8000, 2000, 3000},
		{pipeOf(100, 100, 500), 6000, 6000, 0}, {pipeOf(100, 100, 0), impl.MaxDegrees, impl.MinDegrees, 0}, {mainPipe(), 8000, 800, 10800},
		// Halves are rounded away from 0, in both directions.
		{pipeOf(1, 100, 5), 10000, 0, 1}, {pipeOf(1, 100, 5), 9999, 0, 0}, {pipeOf(1, 100, 5), 0, 10000, -1}, {pipeOf(1, 100, 5), 0, 9999, 0},
		{pipeOf(25, 100, 3), 2000, 0, 2}, {pipeOf(25, 100, 3), -2000, 0, -2}, {pipeOf(1, 100, 1), 50, 0, 0},
		{pipeOf(impl.MaxLength, 100, impl.MaxLoss), impl.MaxDegrees, impl.MinDegrees, 12500000},
		{pipeOf(impl.MaxLength, 100, impl.MaxLoss), impl.MinDegrees, impl.MaxDegrees, -12500000},
		{pipeOf(impl.MaxLength, 100, impl.MaxLoss), 1, 0, 500},
	}
	for _, c := range cases {
		got, code := impl.RangeLoss(c.p, c.warm, c.ground)
		checkCode(t, got, code, c.want, impl.OK, "RangeLoss", c.p, c.warm, c.ground)
	}
	random := rand.New(rand.NewSource(100))
	for range 3000 {
		p, warm, ground := randomPipe(random), randomTemperature(random), randomTemperature(random)
		got, code := impl.RangeLoss(p, warm, ground)
		checkCode(t, got, code, exactLoss(p, warm, ground), impl.OK, "RangeLoss", p, warm, ground)
		back, _ := impl.RangeLoss(p, ground, warm)
		if got != -back {
			t.Errorf("RangeLoss(%+v, %d, %d) = %d, and the other way round %d", p, warm, ground, got, back)
		}
	}
}

func TestNetworkLoss(t *testing.T) {
	cases := []struct {
		n                  impl.Network
		warm, ground, want int64
	}{
		{exampleNetwork(), 6000, 0, 6000}, {exampleNetwork(), 0, 6000, -6000}, {exampleNetwork(), 700, 700, 0},
		{networkOf(1), 8000, 800, 0}, {networkOf(impl.MaxNodes), impl.MaxDegrees, impl.MinDegrees, 0},
		{losingWatts(1, 20, 300, 0, 4000), 100, 0, 4321}, {losingWatts(1, 20, 300, 0, 4000), 100, 300, -8642}, {losingWatts(0, 0), 9000, 0, 0},
		// Each pipe is rounded for itself: three times 0.5, and three times 0.4.
		{losingWatts(5, 5, 5), 10, 0, 3}, {losingWatts(4, 4, 4), 10, 0, 0}, {losingWatts(5, 5, 5), 0, 10, -3},
		{largestNetwork(), impl.MaxDegrees, impl.MinDegrees, 250000000}, {largestNetwork(), impl.MinDegrees, impl.MaxDegrees, -250000000},
	}
	for _, c := range cases {
		got, code := impl.NetworkLoss(c.n, c.warm, c.ground)
		checkCode(t, got, code, c.want, impl.OK, "NetworkLoss", c.n, c.warm, c.ground)
	}
	random := rand.New(rand.NewSource(101))
	for range 1000 {
		n, warm, ground := randomPipes(random, random.Intn(impl.MaxPipes+1)), randomTemperature(random), randomTemperature(random)
		got, code := impl.NetworkLoss(n, warm, ground)
		checkCode(t, got, code, exactNetworkLoss(n, warm, ground), impl.OK, "NetworkLoss", n, warm, ground)
		sum := int64(0)
		for _, p := range n.Pipes {
			loss, _ := impl.RangeLoss(p, warm, ground)
			sum += loss
		}
		if got != sum {
			t.Errorf("NetworkLoss(%+v, %d, %d) = %d, and its pipes lose %d", n, warm, ground, got, sum)
		}
	}
}

func TestLossShares(t *testing.T) {
	cases := []struct {
		n            impl.Network
		warm, ground int64
		want         []int64
	}{
		{exampleNetwork(), 6000, 0, []int64{500, 500}}, {exampleNetwork(), 0, 6000, []int64{500, 500}}, {networkOf(1), 6000, 0, nil},
		{networkOf(3), 0, 6000, nil}, {losingWatts(7), 100, 0, []int64{1000}}, {losingWatts(7), 0, 100, []int64{1000}},
		// The sum of all is 0: no loss, no difference, or one that is too little to be rounded to a watt.
		{losingWatts(0, 0, 0), 6000, 0, []int64{0, 0, 0}}, {losingWatts(7, 8), 500, 500, []int64{0, 0}}, {losingWatts(4, 3), 10, 0, []int64{0, 0}},
		{losingWatts(0, 9, 0, 1), 100, 0, []int64{0, 900, 0, 100}}, {losingWatts(0, 9, 0, 1), 0, 300, []int64{0, 900, 0, 100}},
		// The shares are nearest ones, so they need not add up to 1000: 62.5 and 937.5, 333.3, 1.5 and 0.4.
		{losingWatts(1, 15), 100, 0, []int64{63, 938}}, {losingWatts(1, 15), 0, 100, []int64{63, 938}}, {losingWatts(1, 1, 1), 100, 0, []int64{333, 333, 333}},
		{losingWatts(3, 1997), 100, 0, []int64{2, 999}}, {losingWatts(1, 2499), 100, 0, []int64{0, 1000}}, {losingWatts(2, 1), 100, 0, []int64{667, 333}},
		// What counts are rounded losses: 0.5 is as much as 1.4.
		{losingWatts(5, 14), 10, 0, []int64{500, 500}},
		{largestNetwork(), impl.MaxDegrees, impl.MinDegrees, slices.Repeat([]int64{50}, impl.MaxPipes)},
	}
	for _, c := range cases {
		got, code := impl.LossShares(c.n, c.warm, c.ground)
		checkIndices(t, got, code, c.want, "LossShares", c.n, c.warm, c.ground)
	}
	random := rand.New(rand.NewSource(102))
	for range 1000 {
		n, warm, ground := randomPipes(random, random.Intn(impl.MaxPipes+1)), randomTemperature(random), randomTemperature(random)
		got, code := impl.LossShares(n, warm, ground)
		checkIndices(t, got, code, exactShares(n, warm, ground), "LossShares", n, warm, ground)
	}
}

func TestYearLoss(t *testing.T) {
	cases := []struct {
		n              impl.Network
		warms, grounds []int64
		want           int64
	}{
		{exampleNetwork(), months(6000), months(0), 52560}, {exampleNetwork(), months(0), months(6000), -52560}, {networkOf(1), months(9000), months(0), 0},
		{exampleNetwork(), months(700), months(700), 0}, {losingWatts(0, 0), months(9000), months(0), 0},
		// One month only, each one with a ground of its own, and months that make up for one another.
		{exampleNetwork(), monthsWith(6000), months(0), 4380}, {exampleNetwork(), append(months(0)[1:], 6000), months(0), 4380},
		{losingWatts(1000), monthsWith(100, 200, 300), monthsWith(0, 100, 500), 0}, {losingWatts(1000), monthsWith(100, 200, 300), monthsWith(50, 50, 50), 3285},
		// The sum of all months is rounded, and halves away from 0: 36.5, 35.77 and 1.46.
		{losingWatts(50), monthsWith(100), months(0), 37}, {losingWatts(50), months(0), monthsWith(100), -37}, {losingWatts(25), monthsWith(100, 100), months(0), 37},
		{losingWatts(49), monthsWith(100), months(0), 36}, {losingWatts(1, 1), monthsWith(100), months(0), 1}, {losingWatts(1), months(100), months(0), 9},
		// Each pipe is rounded for itself in each month.
		{losingWatts(5), months(10), months(0), 9}, {losingWatts(4), months(10), months(0), 0}, {losingWatts(5, 5, 4), months(0), months(10), -18},
		{largestNetwork(), months(impl.MaxDegrees), months(impl.MinDegrees), 2190000000},
		{largestNetwork(), months(impl.MinDegrees), months(impl.MaxDegrees), -2190000000},
	}
	for _, c := range cases {
		got, code := impl.YearLoss(c.n, c.warms, c.grounds)
		checkCode(t, got, code, c.want, impl.OK, "YearLoss", c.n, c.warms, c.grounds)
	}
	random := rand.New(rand.NewSource(103))
	for range 500 {
		n, warms, grounds := randomPipes(random, random.Intn(impl.MaxPipes+1)), randomMonths(random), randomMonths(random)
		got, code := impl.YearLoss(n, warms, grounds)
		checkCode(t, got, code, exactYear(n, warms, grounds), impl.OK, "YearLoss", n, warms, grounds)
	}
}

// heaviest puts the pipe first in which the most heat is lost for each degree; of equal ones the one with the lesser
// index. It returns as many as count.
func heaviest(n impl.Network, count int64) []int64 {
	var worst []int64
	for range count {
		next := int64(-1)
		for k, p := range n.Pipes {
			if !slices.Contains(worst, int64(k)) && (next < 0 || p.Loss*p.Length > n.Pipes[next].Loss*n.Pipes[next].Length) {
				next = int64(k)
			}
		}
		worst = append(worst, next)
	}
	slices.Sort(worst)
	return worst
}

func TestWorstPipes(t *testing.T) {
	mixed := losingWatts(100, 400, 200, 300)
	// Half as much for each metre, but three times as long.
	mixed.Pipes[2].Length = 3000
	cases := []struct {
		n     impl.Network
		count int64
		want  []int64
	}{
		{exampleNetwork(), 1, []int64{0}}, {exampleNetwork(), 0, nil}, {exampleNetwork(), 2, []int64{0, 1}}, {networkOf(1), 0, nil}, {networkOf(4), 0, nil},
		{mixed, 1, []int64{2}}, {mixed, 2, []int64{1, 2}}, {mixed, 3, []int64{1, 2, 3}}, {mixed, 4, first(4)},
		// Several ones lose the same.
		{losingWatts(5, 5, 5, 5), 2, []int64{0, 1}}, {losingWatts(1, 5, 3, 5, 5), 1, []int64{1}}, {losingWatts(1, 5, 3, 5, 5), 2, []int64{1, 3}},
		{losingWatts(1, 5, 3, 5, 5), 3, []int64{1, 3, 4}}, {losingWatts(1, 5, 3, 5, 5), 4, []int64{1, 2, 3, 4}}, {losingWatts(0, 0, 0), 2, []int64{0, 1}},
		{losingWatts(0, 1, 0), 2, []int64{0, 1}}, {losingWatts(2, 1, 2, 1, 2, 1), 4, []int64{0, 1, 2, 4}},
		{largestNetwork(), impl.MaxPipes, first(impl.MaxPipes)}, {largestNetwork(), 7, first(7)},
	}
	for _, c := range cases {
		got, code := impl.WorstPipes(c.n, c.count)
		checkIndices(t, got, code, c.want, "WorstPipes", c.n, c.count)
	}
	// What counts is the product itself, not what it is when rounded to watts or with a diameter.
	fine := losingWatts(7, 7, 7)
	fine.Pipes[1].Length, fine.Pipes[0].Diameter = 1001, 900
	got, code := impl.WorstPipes(fine, 1)
	checkIndices(t, got, code, []int64{1}, "WorstPipes", fine, 1)
	random := rand.New(rand.NewSource(104))
	for range 300 {
		n := randomPipes(random, random.Intn(impl.MaxPipes+1))
		for count := range int64(len(n.Pipes)) + 1 {
			got, code := impl.WorstPipes(n, count)
			checkIndices(t, got, code, heaviest(n, count), "WorstPipes", n, count)
		}
	}
}
