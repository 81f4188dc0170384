package tests

import (
	"math/rand"
	"slices"
	"testing"

	"loop.example/g01011/impl"
)

// Promise 11, first half: renewed pipes lose no more. What is tested besides is which ones are best renewed.

const renewalLimit = 1000000000

// exactRenewed is the network after the renewal of some pipes by the definition.
func exactRenewed(n impl.Network, pipes []int64, loss int64) impl.Network {
	renewed := impl.Network{Nodes: slices.Clone(n.Nodes), Pipes: slices.Clone(n.Pipes)}
	for k := range renewed.Pipes {
		if slices.Contains(pipes, int64(k)) && renewed.Pipes[k].Loss > loss {
			renewed.Pipes[k].Loss = loss
		}
	}
	return renewed
}

// randomSet returns some of the first numbers in increasing order.
func randomSet(random *rand.Rand, count int) []int64 {
	var set []int64
	for k := range int64(count) {
		if random.Intn(3) == 0 {
			set = append(set, k)
		}
	}
	return set
}

func checkRenewed(t *testing.T, n impl.Network, pipes []int64, loss int64, want impl.Network) {
	t.Helper()
	got, code := impl.RenewPipes(n, pipes, loss)
	if !impl.SameNetwork(got, want) || code != impl.OK {
		t.Errorf("RenewPipes(%+v, %d, %d) = %+v, %d, want %+v, 0", n, pipes, loss, got, code, want)
	}
}

func TestRenewPipes(t *testing.T) {
	n := losingWatts(500, 100, 300, 0)
	cases := []struct {
		pipes []int64
		loss  int64
		want  [4]int64
	}{
		{nil, 0, [4]int64{500, 100, 300, 0}}, {first(4), 0, [4]int64{0, 0, 0, 0}}, {[]int64{1}, 40, [4]int64{500, 40, 300, 0}},
		// A loss that is greater than that of a pipe, or just as great, leaves it as it is.
		{first(4), 200, [4]int64{200, 100, 200, 0}}, {first(4), 300, [4]int64{300, 100, 300, 0}}, {first(4), 499, [4]int64{499, 100, 300, 0}},
		{first(4), 500, [4]int64{500, 100, 300, 0}}, {first(4), impl.MaxLoss, [4]int64{500, 100, 300, 0}}, {[]int64{1, 3}, 1, [4]int64{500, 1, 300, 0}},
		{[]int64{0}, 0, [4]int64{0, 100, 300, 0}}, {[]int64{2}, 99, [4]int64{500, 100, 99, 0}}, {[]int64{0, 2, 3}, 7, [4]int64{7, 100, 7, 0}},
	}
	for _, c := range cases {
		checkRenewed(t, n, c.pipes, c.loss, losingWatts(c.want[:]...))
	}
	checkRenewed(t, networkOf(3), nil, 0, networkOf(3))
	checkRenewed(t, largestNetwork(), first(impl.MaxPipes), impl.MaxLoss, largestNetwork())
	checkRenewed(t, largestNetwork(), first(impl.MaxPipes), 0, exactRenewed(largestNetwork(), first(impl.MaxPipes), 0))
	checkRenewed(t, exampleNetwork(), []int64{1}, 200, exactRenewed(exampleNetwork(), []int64{1}, 200))
}

func TestRenewedPipesLoseNoMore(t *testing.T) {
	random := rand.New(rand.NewSource(110))
	for range 1000 {
		n := randomPipes(random, random.Intn(impl.MaxPipes+1))
		pipes, loss := randomSet(random, len(n.Pipes)), random.Int63n(impl.MaxLoss+1)
		checkRenewed(t, n, pipes, loss, exactRenewed(n, pipes, loss))
		renewed, _ := impl.RenewPipes(n, pipes, loss)
		ground := randomTemperature(random)
		warm := ground + random.Int63n(impl.MaxDegrees-ground+1)
		before, _ := impl.NetworkLoss(n, warm, ground)
		after, code := impl.NetworkLoss(renewed, warm, ground)
		if after > before || code != impl.OK {
			t.Errorf("%+v loses %d, and %d after the renewal of %d with the loss %d", n, before, after, pipes, loss)
		}
		for k, p := range renewed.Pipes {
			if p.Loss > n.Pipes[k].Loss || slices.Contains(pipes, int64(k)) && p.Loss > loss {
				t.Errorf("the pipe %d of %+v has the loss %d after the renewal of %d with the loss %d", k, n, p.Loss, pipes, loss)
			}
		}
	}
}

// renewalTask is what the best renewal depends on beside the network.
type renewalTask struct {
	costs                             []int64
	loss, money, warm, ground, budget int64
}

// taskOf returns a task whose water is 1 degree warmer than the ground, and with the greatest budget.
func taskOf(loss, money int64, costs ...int64) renewalTask {
	return renewalTask{costs, loss, money, 100, 0, impl.MaxBudget}
}

func (r renewalTask) of(n impl.Network) ([]int64, int64, int64) {
	return impl.BestRenewal(n, r.costs, r.loss, r.money, r.warm, r.ground, r.budget)
}

// costOf is what the renewal of a set of pipes costs.
func (r renewalTask) costOf(set []int64) int64 {
	cost := int64(0)
	for _, k := range set {
		cost += r.costs[k]
	}
	return cost
}

// exact tries all sets in lexicographic order, and keeps the first one with the least loss.
func (r renewalTask) exact(n impl.Network) (best []int64, least int64) {
	found := false
	setsFrom(nil, 0, int64(len(n.Pipes)), func(set []int64) {
		if r.costOf(set) > r.money {
			return
		}
		if loss := exactNetworkLoss(exactRenewed(n, set, r.loss), r.warm, r.ground); !found || loss < least {
			best, least, found = set, loss, true
		}
	})
	return best, least
}

// nodes counts the nodes of the search: one for each set of the first pipes, of one or more, for which there is enough
// money, since such a set is told by whether the last one of them is taken or left.
func (r renewalTask) nodes() int64 {
	count := int64(0)
	for pipes := 1; pipes <= len(r.costs); pipes++ {
		for bits := range 1 << pipes {
			cost := int64(0)
			for k := range pipes {
				cost += r.costs[k] * int64(bits>>k&1)
			}
			if cost <= r.money {
				count++
			}
		}
	}
	return count
}

// checkRenewal compares the best renewal, its loss and its code with what they should be.
func checkRenewal(t *testing.T, n impl.Network, r renewalTask, want []int64, wantLoss, wantCode int64) {
	t.Helper()
	got, loss, code := r.of(n)
	if !slices.Equal(got, want) || loss != wantLoss || code != wantCode {
		t.Errorf("BestRenewal(%+v, %+v) = %d, %d, %d, want %d, %d, %d", n, r, got, loss, code, want, wantLoss, wantCode)
	}
}

func TestBestRenewal(t *testing.T) {
	three := losingWatts(500, 300, 400)
	cases := []struct {
		n     impl.Network
		r     renewalTask
		want  []int64
		least int64
	}{
		{exampleNetwork(), renewalTask{[]int64{5, 5}, 200, 5, 6000, 0, 100}, []int64{0}, 4200}, {networkOf(1), taskOf(0, 0), nil, 0}, {networkOf(4), taskOf(9, 9), nil, 0},
		// Money that is just enough, and not.
		{three, taskOf(100, 0, 5, 5, 5), nil, 1200}, {three, taskOf(100, 4, 5, 5, 5), nil, 1200}, {three, taskOf(100, 5, 5, 5, 5), []int64{0}, 800},
		{three, taskOf(100, 9, 5, 5, 5), []int64{0}, 800}, {three, taskOf(100, 10, 5, 5, 5), []int64{0, 2}, 500}, {three, taskOf(100, 14, 5, 5, 5), []int64{0, 2}, 500},
		{three, taskOf(100, 15, 5, 5, 5), first(3), 300}, {three, taskOf(100, 9, 10, 4, 5), []int64{1, 2}, 700}, {three, taskOf(100, 10, 10, 4, 6), []int64{1, 2}, 700},
		{three, taskOf(100, 10, 10, 4, 7), []int64{0}, 800}, {three, taskOf(100, 8, 10, 4, 5), []int64{2}, 900}, {three, taskOf(100, 4, 10, 4, 5), []int64{1}, 1000},
		// Renewals that cost nothing, and all that there may be.
		{three, taskOf(100, 0, 0, 0, 0), first(3), 300}, {three, taskOf(0, 0, 1, 0, 0), []int64{1, 2}, 500}, {three, taskOf(0, 0, 0, 1, 1), []int64{0}, 700},
		{three, taskOf(0, renewalLimit, renewalLimit, renewalLimit, renewalLimit), []int64{0}, 700}, {three, taskOf(0, renewalLimit, renewalLimit, 0, 0), first(3), 0},
		{three, taskOf(0, renewalLimit, renewalLimit, 1, renewalLimit-1), []int64{1, 2}, 500}, {three, taskOf(0, renewalLimit, renewalLimit, 2, renewalLimit-1), []int64{0}, 700},
		// A loss that is not less than that of the pipes.
		{three, taskOf(500, 99, 1, 1, 1), nil, 1200}, {three, taskOf(impl.MaxLoss, 99, 1, 1, 1), nil, 1200}, {three, taskOf(400, 99, 1, 1, 1), []int64{0}, 1100},
		{three, taskOf(350, 99, 1, 1, 1), []int64{0, 1, 2}, 1000}, {losingWatts(0, 0), taskOf(0, 99, 1, 1), nil, 0},
	}
	for _, c := range cases {
		checkRenewal(t, c.n, c.r, c.want, c.least, impl.OK)
	}
}

func TestBestRenewalOfEqualOnes(t *testing.T) {
	// Sets with the same loss: the first one counts, in which pipes may be that need no renewal, but none behind the last
	// one that does.
	cases := []struct {
		n     impl.Network
		r     renewalTask
		want  []int64
		least int64
	}{
		{losingWatts(5, 5, 5), taskOf(0, 1, 1, 1, 1), []int64{0}, 10}, {losingWatts(5, 5, 5), taskOf(0, 2, 1, 1, 1), []int64{0, 1}, 5},
		{losingWatts(5, 5, 5), taskOf(0, 1, 2, 1, 1), []int64{1}, 10}, {losingWatts(3, 1, 2), taskOf(0, 6, 6, 3, 3), []int64{0}, 3},
		{losingWatts(1, 2, 3), taskOf(0, 6, 3, 3, 6), []int64{0, 1}, 3}, {losingWatts(2, 4, 2), taskOf(0, 6, 3, 6, 3), []int64{0, 2}, 4},
		{losingWatts(0, 5), taskOf(0, 9, 1, 1), []int64{0, 1}, 0}, {losingWatts(0, 5), taskOf(0, 1, 1, 1), []int64{1}, 0}, {losingWatts(5, 0), taskOf(0, 9, 1, 1), []int64{0}, 0},
		{losingWatts(0, 0, 5, 0), taskOf(0, 9, 1, 1, 1, 1), []int64{0, 1, 2}, 0}, {losingWatts(0, 0, 5, 0), taskOf(0, 2, 1, 1, 1, 1), []int64{0, 2}, 0},
		{losingWatts(0, 0, 5, 0), taskOf(0, 1, 1, 1, 1, 0), []int64{2}, 0}, {losingWatts(0, 0, 5, 0), taskOf(0, 1, 1, 0, 1, 0), []int64{1, 2}, 0},
		{losingWatts(0, 0, 0), taskOf(0, 9, 1, 1, 1), nil, 0}, {losingWatts(9, 9), taskOf(9, 9, 1, 1), nil, 18},
		// With the same temperatures nothing is lost, and if the ground is warmer, pipes that are not renewed bring more heat.
		{losingWatts(5, 5), renewalTask{[]int64{0, 0}, 0, 9, 300, 300, 99}, nil, 0}, {losingWatts(5, 5), renewalTask{[]int64{0, 0}, 0, 9, 100, 300, 99}, nil, -20},
		{losingWatts(0, 5), renewalTask{[]int64{0, 0}, 0, 9, impl.MinDegrees, impl.MaxDegrees, 99}, nil, -1250},
		// What counts are rounded losses: 0.5 and 0.4 become 1 and 0, and 1.4 is no more than 0.5.
		{losingWatts(5, 4), renewalTask{[]int64{1, 1}, 0, 2, 10, 0, 99}, []int64{0}, 0}, {losingWatts(4, 5), renewalTask{[]int64{1, 1}, 0, 1, 10, 0, 99}, []int64{1}, 0},
		{losingWatts(14, 5), renewalTask{[]int64{1, 1}, 5, 2, 10, 0, 99}, nil, 2}, {losingWatts(15, 5), renewalTask{[]int64{1, 1}, 5, 2, 10, 0, 99}, []int64{0}, 2},
		{losingWatts(5, 14), renewalTask{[]int64{1, 1}, 0, 1, 10, 0, 99}, []int64{0}, 1},
	}
	for _, c := range cases {
		checkRenewal(t, c.n, c.r, c.want, c.least, impl.OK)
	}
}

func randomRenewal(random *rand.Rand, n impl.Network) renewalTask {
	widest := 1 + random.Int63n(renewalLimit)>>random.Intn(30)
	r := renewalTask{
		loss: random.Int63n(impl.MaxLoss+1) >> random.Intn(13), money: random.Int63n(widest*int64(1+len(n.Pipes))/3 + 1),
		warm: randomTemperature(random), ground: randomTemperature(random), budget: impl.MaxBudget,
	}
	if random.Intn(4) > 0 {
		r.warm, r.ground = max(r.warm, r.ground), min(r.warm, r.ground)
	}
	r.money = min(r.money, renewalLimit)
	for range n.Pipes {
		r.costs = append(r.costs, random.Int63n(widest+1))
	}
	return r
}

func TestNoRenewalIsBetter(t *testing.T) {
	random := rand.New(rand.NewSource(111))
	for range 600 {
		n := randomPipes(random, random.Intn(10))
		// Many small losses, so that there are many sets with the same one.
		if random.Intn(2) == 0 {
			for k := range n.Pipes {
				n.Pipes[k].Length, n.Pipes[k].Loss = 1000, random.Int63n(4)
			}
		}
		r := randomRenewal(random, n)
		want, least := r.exact(n)
		r.budget = max(1, r.nodes())
		checkRenewal(t, n, r, want, least, impl.OK)
		renewed, _ := impl.RenewPipes(n, want, r.loss)
		if loss, code := impl.NetworkLoss(renewed, r.warm, r.ground); loss != least || code != impl.OK {
			t.Errorf("%+v loses %d, %d after the renewal of %d, want %d", n, loss, code, want, least)
		}
	}
}

func TestBestRenewalWithinABudget(t *testing.T) {
	random := rand.New(rand.NewSource(112))
	for range 300 {
		n := randomPipes(random, random.Intn(8))
		r := randomRenewal(random, n)
		want, least := r.exact(n)
		nodes := r.nodes()
		for _, budget := range []int64{1, nodes / 2, nodes - 2, nodes - 1} {
			if r.budget = budget; budget > 0 && budget < nodes {
				checkRenewal(t, n, r, nil, 0, impl.ErrFull)
			}
		}
		for _, budget := range []int64{max(1, nodes), nodes + 1, impl.MaxBudget} {
			r.budget = budget
			checkRenewal(t, n, r, want, least, impl.OK)
		}
	}
}

// The nodes are counted by hand here.
func TestNodesOfRenewals(t *testing.T) {
	cases := []struct {
		r     renewalTask
		nodes int64
	}{
		// Each one may be taken: 2, 4 and 8 nodes. None may: a node each.
		{taskOf(0, 3, 1, 1, 1), 14}, {taskOf(0, 0, 0, 0, 0), 14}, {taskOf(0, 0, 1, 1, 1), 3}, {taskOf(0, 4, 5, 5, 5), 3}, {taskOf(0, 5, 5), 2}, {taskOf(0, 4, 5), 1},
		// Taken and left, and behind these: left, and taken and left.
		{taskOf(0, 5, 5, 5), 5}, {taskOf(0, 9, 5, 5), 5}, {taskOf(0, 10, 5, 5), 6}, {taskOf(0, 1, 1, 1, 1), 9}, {taskOf(0, 2, 1, 1, 1), 13}, {taskOf(0, 5, 6, 5, 5), 6},
		// The cost of a pipe counts even if its renewal changes nothing.
		{taskOf(impl.MaxLoss, 5, 5, 5), 5}, {taskOf(impl.MaxLoss, 10, 5, 5), 6},
		{taskOf(0, 0, slices.Repeat([]int64{1}, impl.MaxPipes)...), impl.MaxPipes}, {taskOf(0, 1, slices.Repeat([]int64{1}, impl.MaxPipes)...), 230},
		{taskOf(0, 2, slices.Repeat([]int64{1}, impl.MaxPipes)...), 1560}, {taskOf(0, 3, slices.Repeat([]int64{1}, impl.MaxPipes)...), 7545},
		{taskOf(0, 0, make([]int64, 13)...), 16382},
	}
	for _, c := range cases {
		n := losingWatts(slices.Repeat([]int64{7}, len(c.r.costs))...)
		c.r.budget = c.nodes
		if _, _, code := c.r.of(n); code != impl.OK {
			t.Errorf("the best renewal by %+v has the code %d", c.r, code)
		}
		if c.r.budget = c.nodes - 1; c.nodes > 1 {
			checkRenewal(t, n, c.r, nil, 0, impl.ErrFull)
		}
	}
}

func TestBestRenewalOfMostPipes(t *testing.T) {
	n := losingWatts(slices.Repeat([]int64{7}, impl.MaxPipes)...)
	ones := slices.Repeat([]int64{1}, impl.MaxPipes)
	checkRenewal(t, n, taskOf(0, 3, ones...), []int64{0, 1, 2}, 119, impl.OK)
	// With more money, or without any costs, there are more nodes than any budget allows.
	checkRenewal(t, n, taskOf(0, 4, ones...), nil, 0, impl.ErrFull)
	checkRenewal(t, n, taskOf(0, 0, make([]int64, impl.MaxPipes)...), nil, 0, impl.ErrFull)
	checkRenewal(t, n, taskOf(0, renewalLimit, ones...), nil, 0, impl.ErrFull)
	checkRenewal(t, losingWatts(slices.Repeat([]int64{7}, 14)...), taskOf(0, 0, make([]int64, 14)...), nil, 0, impl.ErrFull)
	checkRenewal(t, losingWatts(slices.Repeat([]int64{7}, 13)...), taskOf(0, 0, make([]int64, 13)...), first(13), 0, impl.OK)
	costs := slices.Repeat([]int64{renewalLimit}, impl.MaxPipes)
	checkRenewal(t, n, taskOf(3, renewalLimit, costs...), []int64{0}, 136, impl.OK)
	n.Pipes[19].Loss = 8
	checkRenewal(t, n, taskOf(3, renewalLimit, costs...), []int64{19}, 136, impl.OK)
}
