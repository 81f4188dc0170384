package tests

import (
	"math"
	"math/rand"
	"reflect"
	"slices"
	"strings"
	"testing"

	"loop.example/g01011/impl"
)

// Promise 5: trees have a pipe less than nodes, and walks lead where they should.

// networkOf returns a network with pipes between the given nodes, which are named p10, p11 and so on.
func networkOf(nodes int, ends ...[2]int64) impl.Network {
	n := impl.Network{Nodes: make([]int64, nodes)}
	for node := range n.Nodes {
		n.Nodes[node] = int64(100*node - 250)
	}
	for k, e := range ends {
		n.Pipes = append(n.Pipes, impl.Pipe{
			Id: "p" + impl.Decimal(int64(10+k)), From: e[0], To: e[1], Length: int64(1 + k), Diameter: 100, Loss: 300,
		})
	}
	return n
}

// lineOf returns a network of nodes in a line, in which every second pipe runs backwards.
func lineOf(nodes int) impl.Network {
	var ends [][2]int64
	for node := int64(1); node < int64(nodes); node++ {
		e := [2]int64{node - 1, node}
		if node%2 == 0 {
			slices.Reverse(e[:])
		}
		ends = append(ends, e)
	}
	return networkOf(nodes, ends...)
}

// largestNetwork has the most nodes and pipes, the longest Ids and the largest numbers.
func largestNetwork() impl.Network {
	n := impl.Network{Nodes: make([]int64, impl.MaxNodes)}
	for node := range n.Nodes {
		n.Nodes[node] = impl.MaxElevation * int64(1-2*(node%2))
	}
	for k := range int64(impl.MaxPipes) {
		n.Pipes = append(n.Pipes, impl.Pipe{
			Id: "pipenumb" + impl.Decimal(10+k), From: (7 * k) % impl.MaxNodes, To: (7*k + 1 + k/3) % impl.MaxNodes,
			Length: impl.MaxLength, Diameter: impl.MaxWidth, Loss: impl.MaxLoss,
		})
	}
	return n
}

func randomNetwork(random *rand.Rand, mostNodes, mostPipes int) impl.Network {
	nodes := 1 + random.Intn(mostNodes)
	var ends [][2]int64
	if nodes > 1 {
		for range random.Intn(mostPipes + 1) {
			from := random.Intn(nodes)
			to := (from + 1 + random.Intn(nodes-1)) % nodes
			ends = append(ends, [2]int64{int64(from), int64(to)})
		}
	}
	return networkOf(nodes, ends...)
}

// randomNetworks are some of each size, the small ones with all kinds of parallel pipes.
func randomNetworks(seed int64) []impl.Network {
	random := rand.New(rand.NewSource(seed))
	var list []impl.Network
	for range 400 {
		list = append(list, randomNetwork(random, 5, 8), randomNetwork(random, impl.MaxNodes, impl.MaxPipes))
	}
	return list
}

// randomTree returns a tree whose pipes are in no order and run in both directions.
func randomTree(random *rand.Rand) impl.Network {
	nodes := 1 + random.Intn(impl.MaxNodes)
	names := random.Perm(nodes)
	var ends [][2]int64
	for node := 1; node < nodes; node++ {
		e := [2]int64{int64(names[node]), int64(names[random.Intn(node)])}
		if random.Intn(2) == 0 {
			slices.Reverse(e[:])
		}
		ends = append(ends, e)
	}
	random.Shuffle(len(ends), func(i, j int) { ends[i], ends[j] = ends[j], ends[i] })
	return networkOf(nodes, ends...)
}

// joinedNodes tells by repeated joining which nodes pipes join, in any direction, if only some of them are there.
func joinedNodes(n impl.Network, isThere func(k int64) bool) [][]bool {
	joined := make([][]bool, len(n.Nodes))
	for node := range joined {
		joined[node] = make([]bool, len(n.Nodes))
		joined[node][node] = true
	}
	for k, p := range n.Pipes {
		if isThere(int64(k)) {
			joined[p.From][p.To], joined[p.To][p.From] = true, true
		}
	}
	for middle := range joined {
		for a := range joined {
			for b := range joined {
				joined[a][b] = joined[a][b] || joined[a][middle] && joined[middle][b]
			}
		}
	}
	return joined
}

func everyPipe(int64) bool { return true }

func everyPipeBut(k int64) func(int64) bool {
	return func(other int64) bool { return other != k }
}

// leastNodes returns for each node the first one that is joined with it.
func leastNodes(joined [][]bool) []int64 {
	var list []int64
	for node := range joined {
		list = append(list, int64(slices.Index(joined[node], true)))
	}
	return list
}

func countParts(joined [][]bool) int {
	list := leastNodes(joined)
	slices.Sort(list)
	return len(slices.Compact(list))
}

// first returns the first numbers from 0 on.
func first(count int64) []int64 {
	var list []int64
	for k := range count {
		list = append(list, k)
	}
	return list
}

// checkIndices compares a list with what it should be; nil and empty are the same.
func checkIndices(t *testing.T, got []int64, code int64, want []int64, what string, arguments ...any) {
	t.Helper()
	if !slices.Equal(got, want) || code != impl.OK {
		t.Errorf("%s%v = %d, %d, want %d, 0", what, arguments, got, code, want)
	}
}

// checkRefused checks that a code comes alone.
func checkRefused(t *testing.T, got []int64, code, wantCode int64, what string, arguments ...any) {
	t.Helper()
	if len(got) != 0 || code != wantCode {
		t.Errorf("%s%v = %d, %d, want none, %d", what, arguments, got, code, wantCode)
	}
}

// invalidNetworks are those with one thing wrong.
func invalidNetworks() []impl.Network {
	list := []impl.Network{
		{}, {Nodes: []int64{}}, {Pipes: networkOf(2, [2]int64{0, 1}).Pipes},
		networkOf(impl.MaxNodes + 1), networkOf(2, [2]int64{0, 0}),
		networkOf(2, slices.Repeat([][2]int64{{0, 1}}, impl.MaxPipes+1)...),
	}
	change := func(set func(*impl.Network)) {
		n := lineOf(4)
		set(&n)
		list = append(list, n)
	}
	for _, elevation := range beyond(-impl.MaxElevation, impl.MaxElevation) {
		change(func(n *impl.Network) { n.Nodes[0] = elevation })
		change(func(n *impl.Network) { n.Nodes[3] = elevation })
	}
	for _, p := range invalidPipes() {
		change(func(n *impl.Network) { n.Pipes[0] = p })
	}
	for k := range 3 {
		change(func(n *impl.Network) { n.Pipes[k].Id = "" })
		change(func(n *impl.Network) { n.Pipes[k].Id = "P1" + impl.Decimal(int64(k)) })
		change(func(n *impl.Network) { n.Pipes[k].From = n.Pipes[k].To })
		change(func(n *impl.Network) { n.Pipes[k].From = 4 })
		change(func(n *impl.Network) { n.Pipes[k].To = 4 })
		change(func(n *impl.Network) { n.Pipes[k].From = -1 })
		change(func(n *impl.Network) { n.Pipes[k].To = -1 })
		change(func(n *impl.Network) { n.Pipes[k].Length = impl.MaxLength + 1 })
		change(func(n *impl.Network) { n.Pipes[k].Diameter = impl.MinWidth - 1 })
		change(func(n *impl.Network) { n.Pipes[k].Loss = -1 })
	}
	change(func(n *impl.Network) { n.Pipes[1].Id = n.Pipes[0].Id })
	change(func(n *impl.Network) { n.Pipes[2].Id = n.Pipes[1].Id })
	change(func(n *impl.Network) { n.Pipes[1].Id = "p1" })
	change(func(n *impl.Network) { n.Pipes[2].Id = "a" })
	change(func(n *impl.Network) { slices.Reverse(n.Pipes) })
	return list
}

// validNetworks are ordinary and extreme ones.
func validNetworks() []impl.Network {
	return []impl.Network{
		networkOf(1), networkOf(2), networkOf(impl.MaxNodes), networkOf(2, [2]int64{1, 0}), lineOf(4), lineOf(impl.MaxNodes),
		networkOf(2, slices.Repeat([][2]int64{{0, 1}}, impl.MaxPipes)...),
		{Nodes: []int64{-impl.MaxElevation}}, {Nodes: []int64{impl.MaxElevation}, Pipes: []impl.Pipe{}},
		networkOf(3, [2]int64{0, 1}, [2]int64{1, 2}, [2]int64{2, 0}), largestNetwork(),
	}
}

func TestValidNetwork(t *testing.T) {
	for _, n := range validNetworks() {
		if !impl.ValidNetwork(n) {
			t.Errorf("ValidNetwork(%+v) = false", n)
		}
	}
	for _, n := range invalidNetworks() {
		if impl.ValidNetwork(n) {
			t.Errorf("ValidNetwork(%+v) = true", n)
		}
	}
	// Ids are compared by their bytes, so a digit comes before a letter and p9 behind p10.
	n := lineOf(4)
	for _, ids := range [][3]string{{"p10", "p9", "pa"}, {"a", "a0", "aa"}, {"z", "z0", "zz"}} {
		for k := range n.Pipes {
			n.Pipes[k].Id = ids[k]
		}
		if !impl.ValidNetwork(n) {
			t.Errorf("a network with the Ids %q is not valid", ids)
		}
	}
}

func TestInvalidNetworksAreRefusedFirst(t *testing.T) {
	for _, n := range invalidNetworks() {
		for _, id := range []string{"p10", "x", ""} {
			k, code := impl.PipeNamed(n, id)
			checkCode(t, k, code, 0, impl.ErrInvalid, "PipeNamed", n, id)
			dropped, code := impl.DropPipe(n, id)
			checkNoNetwork(t, dropped, code, impl.ErrInvalid, "DropPipe", n, id)
		}
		for _, p := range []impl.Pipe{mainPipe(), {Id: "p10", To: 1, Length: 1, Diameter: 20}, {Id: "q", To: 99}, {}} {
			added, code := impl.AddPipe(n, p)
			checkNoNetwork(t, added, code, impl.ErrInvalid, "AddPipe", n, p)
		}
		for _, number := range []int64{0, -1, impl.MaxNodes} {
			at, code := impl.PipesAt(n, number)
			checkRefused(t, at, code, impl.ErrInvalid, "PipesAt", n, number)
			path, code := impl.PathOf(n, number, 0)
			checkRefused(t, path, code, impl.ErrInvalid, "PathOf", n, number)
			path, code = impl.PathOf(n, 0, number)
			checkRefused(t, path, code, impl.ErrInvalid, "PathOf", n, number)
			reached, code := impl.ReachedWithout(n, number, nil)
			checkRefused(t, reached, code, impl.ErrInvalid, "ReachedWithout", n, number)
			reached, code = impl.ReachedWithout(n, 0, []int64{number})
			checkRefused(t, reached, code, impl.ErrInvalid, "ReachedWithout", n, number)
		}
		parts, code := impl.NetworkParts(n)
		checkRefused(t, parts, code, impl.ErrInvalid, "NetworkParts", n)
		tree, code := impl.NetworkTree(n)
		checkRefused(t, tree, code, impl.ErrInvalid, "NetworkTree", n)
		bridges, code := impl.BridgePipes(n)
		checkRefused(t, bridges, code, impl.ErrInvalid, "BridgePipes", n)
		if impl.IsTree(n) || impl.NetworkText(n) != "" {
			t.Errorf("IsTree(%+v) = %v, NetworkText = %q", n, impl.IsTree(n), impl.NetworkText(n))
		}
	}
}

func checkNoNetwork(t *testing.T, got impl.Network, code, wantCode int64, what string, arguments ...any) {
	t.Helper()
	if len(got.Nodes) != 0 || len(got.Pipes) != 0 || code != wantCode {
		t.Errorf("%s%+v = %+v, %d, want none, %d", what, arguments, got, code, wantCode)
	}
}

func TestSameNetwork(t *testing.T) {
	networks := append(validNetworks(), invalidNetworks()[5:9]...)
	for i, a := range networks {
		for j, b := range networks {
			if got := impl.SameNetwork(a, b); got != (i == j) {
				t.Errorf("SameNetwork(%+v, %+v) = %v", a, b, got)
			}
		}
		copied := impl.Network{Nodes: slices.Clone(a.Nodes), Pipes: slices.Clone(a.Pipes)}
		if !impl.SameNetwork(a, copied) {
			t.Errorf("a copy of %+v is not the same", a)
		}
	}
	if !impl.SameNetwork(impl.Network{}, impl.Network{Nodes: []int64{}, Pipes: []impl.Pipe{}}) {
		t.Error("nil and empty lists are not the same")
	}
}

func TestSameNetworkTellsEveryNumber(t *testing.T) {
	changes := []func(*impl.Network){
		func(n *impl.Network) { n.Nodes[0]++ }, func(n *impl.Network) { n.Nodes[3]-- },
		func(n *impl.Network) { n.Nodes = n.Nodes[:3] }, func(n *impl.Network) { n.Pipes = n.Pipes[:2] },
		func(n *impl.Network) { n.Pipes = nil }, func(n *impl.Network) { n.Nodes = append(n.Nodes, 0) },
		func(n *impl.Network) { n.Pipes[0].Id = "a" }, func(n *impl.Network) { n.Pipes[2].Id = "z" },
		func(n *impl.Network) { n.Pipes[1].From++ }, func(n *impl.Network) { n.Pipes[1].To++ },
		func(n *impl.Network) { n.Pipes[2].Length++ }, func(n *impl.Network) { n.Pipes[0].Diameter++ },
		func(n *impl.Network) { n.Pipes[1].Loss++ }, func(n *impl.Network) { slices.Reverse(n.Pipes) },
	}
	for i, change := range changes {
		n := lineOf(4)
		change(&n)
		if impl.SameNetwork(n, lineOf(4)) || impl.SameNetwork(lineOf(4), n) {
			t.Errorf("change %d is not seen", i)
		}
	}
}

func TestPipeNamed(t *testing.T) {
	for _, n := range append(validNetworks(), randomNetworks(21)[:40]...) {
		for k, p := range n.Pipes {
			got, code := impl.PipeNamed(n, p.Id)
			checkCode(t, got, code, int64(k), impl.OK, "PipeNamed", p.Id)
		}
		for _, id := range []string{"", "p", "p1", "p100", "P10", "p10 ", "a", "zz", "p10\x00", strings.Repeat("p", 5000)} {
			got, code := impl.PipeNamed(n, id)
			checkCode(t, got, code, 0, impl.ErrNotFound, "PipeNamed", id)
		}
	}
}

func TestAddPipeAtItsPlace(t *testing.T) {
	n := networkOf(3, [2]int64{0, 1}, [2]int64{1, 2}, [2]int64{2, 0})
	places := map[string]int{"a": 0, "p": 0, "p1": 0, "p0": 0, "p100": 1, "p10a": 1, "p11z": 2, "p12a": 3, "p9": 3, "z": 3}
	for id, place := range places {
		p := impl.Pipe{Id: id, From: 2, To: 1, Length: 7, Diameter: 77, Loss: 777}
		got, code := impl.AddPipe(n, p)
		want := impl.Network{Nodes: n.Nodes, Pipes: slices.Insert(slices.Clone(n.Pipes), place, p)}
		if !impl.SameNetwork(got, want) || !impl.ValidNetwork(got) || code != impl.OK {
			t.Errorf("AddPipe of %q = %+v, %d", id, got, code)
		}
		back, code := impl.DropPipe(got, id)
		if !impl.SameNetwork(back, n) || code != impl.OK {
			t.Errorf("DropPipe of %q = %+v, %d", id, back, code)
		}
	}
}

func TestAddPipeErrors(t *testing.T) {
	full := networkOf(3, slices.Repeat([][2]int64{{0, 1}}, impl.MaxPipes)...)
	almost := networkOf(3, slices.Repeat([][2]int64{{0, 1}}, impl.MaxPipes-1)...)
	good := impl.Pipe{Id: "q", From: 2, To: 0, Length: 1, Diameter: 20}
	if got, code := impl.AddPipe(almost, good); code != impl.OK || len(got.Pipes) != impl.MaxPipes || !impl.ValidNetwork(got) {
		t.Errorf("the last pipe that has room is refused with %d", code)
	}
	refused := invalidPipes()
	for _, end := range []int64{3, 15, 16, -1} {
		// These nodes are not in the network, and there may be a pipe with this Id.
		for _, id := range []string{"q", "p10", "p29"} {
			from, to := good, good
			from.Id, from.From, to.Id, to.To = id, end, id, end
			refused = append(refused, from, to)
		}
	}
	for _, p := range refused {
		for _, n := range []impl.Network{full, almost, networkOf(3)} {
			got, code := impl.AddPipe(n, p)
			checkNoNetwork(t, got, code, impl.ErrRange, "AddPipe", p)
		}
	}
	for _, id := range []string{"p10", "p19", "p28", "p29"} {
		p := good
		p.Id = id
		got, code := impl.AddPipe(full, p)
		checkNoNetwork(t, got, code, impl.ErrExists, "AddPipe", p)
	}
	for _, id := range []string{"a", "p100", "p30"} {
		p := good
		p.Id = id
		got, code := impl.AddPipe(full, p)
		checkNoNetwork(t, got, code, impl.ErrFull, "AddPipe", p)
	}
	got, code := impl.AddPipe(networkOf(1), good)
	checkNoNetwork(t, got, code, impl.ErrRange, "AddPipe", good)
}

func TestDropPipe(t *testing.T) {
	for _, n := range append(validNetworks(), randomNetworks(22)[:40]...) {
		for k, p := range n.Pipes {
			got, code := impl.DropPipe(n, p.Id)
			want := impl.Network{Nodes: n.Nodes, Pipes: slices.Delete(slices.Clone(n.Pipes), k, k+1)}
			if !impl.SameNetwork(got, want) || !impl.ValidNetwork(got) || code != impl.OK {
				t.Errorf("DropPipe(%+v, %q) = %+v, %d", n, p.Id, got, code)
			}
		}
		for _, id := range []string{"", "p", "p9", "a", "zz", "P10", strings.Repeat("p", 5000)} {
			got, code := impl.DropPipe(n, id)
			checkNoNetwork(t, got, code, impl.ErrNotFound, "DropPipe", n, id)
		}
	}
}

func TestPipesAt(t *testing.T) {
	n := networkOf(5, [2]int64{0, 1}, [2]int64{2, 1}, [2]int64{1, 0}, [2]int64{3, 2}, [2]int64{0, 1}, [2]int64{1, 3})
	want := [][]int64{{0, 2, 4}, {0, 1, 2, 4, 5}, {1, 3}, {3, 5}, {}}
	for node := range want {
		got, code := impl.PipesAt(n, int64(node))
		checkIndices(t, got, code, want[node], "PipesAt", node)
	}
	for _, n := range append(validNetworks(), randomNetworks(23)...) {
		for node := range int64(len(n.Nodes)) {
			var want []int64
			for k, p := range n.Pipes {
				if p.From == node || p.To == node {
					want = append(want, int64(k))
				}
			}
			got, code := impl.PipesAt(n, node)
			checkIndices(t, got, code, want, "PipesAt", n, node)
		}
		for _, node := range beyond(0, int64(len(n.Nodes))-1) {
			got, code := impl.PipesAt(n, node)
			checkRefused(t, got, code, impl.ErrRange, "PipesAt", n, node)
		}
	}
}

func TestNetworkParts(t *testing.T) {
	cases := []struct {
		n    impl.Network
		want []int64
	}{
		{networkOf(1), []int64{0}},
		{networkOf(4), []int64{0, 1, 2, 3}},
		{networkOf(4, [2]int64{3, 2}, [2]int64{3, 1}), []int64{0, 1, 1, 1}},
		{networkOf(6, [2]int64{5, 3}, [2]int64{4, 2}, [2]int64{0, 3}), []int64{0, 1, 2, 0, 2, 0}},
		{networkOf(5, [2]int64{0, 4}, [2]int64{1, 3}, [2]int64{3, 4}), []int64{0, 0, 2, 0, 0}},
		{lineOf(impl.MaxNodes), make([]int64, impl.MaxNodes)},
	}
	for _, c := range cases {
		got, code := impl.NetworkParts(c.n)
		checkIndices(t, got, code, c.want, "NetworkParts", c.n)
	}
	for _, n := range append(validNetworks(), randomNetworks(24)...) {
		got, code := impl.NetworkParts(n)
		checkIndices(t, got, code, leastNodes(joinedNodes(n, everyPipe)), "NetworkParts", n)
	}
}

func TestNetworkTree(t *testing.T) {
	cases := []struct {
		n    impl.Network
		want []int64
	}{
		{networkOf(1), nil}, {networkOf(7), nil},
		{networkOf(3, [2]int64{0, 1}, [2]int64{1, 0}, [2]int64{0, 1}, [2]int64{2, 1}, [2]int64{0, 2}), []int64{0, 3}},
		{networkOf(4, [2]int64{3, 2}, [2]int64{0, 1}, [2]int64{3, 2}, [2]int64{1, 2}, [2]int64{0, 3}), []int64{0, 1, 3}},
	}
	for _, c := range cases {
		got, code := impl.NetworkTree(c.n)
		checkIndices(t, got, code, c.want, "NetworkTree", c.n)
	}
	for _, n := range append(validNetworks(), randomNetworks(25)...) {
		var want []int64
		for k, p := range n.Pipes {
			before := joinedNodes(n, func(other int64) bool { return other < int64(k) })
			if !before[p.From][p.To] {
				want = append(want, int64(k))
			}
		}
		got, code := impl.NetworkTree(n)
		checkIndices(t, got, code, want, "NetworkTree", n)
		if parts := countParts(joinedNodes(n, everyPipe)); len(got) != len(n.Nodes)-parts {
			t.Errorf("NetworkTree(%+v) = %d, but there are %d parts", n, got, parts)
		}
	}
}

func TestIsTree(t *testing.T) {
	isTree := []impl.Network{networkOf(1), networkOf(2, [2]int64{1, 0}), lineOf(4), lineOf(impl.MaxNodes)}
	isNot := []impl.Network{
		networkOf(2), networkOf(impl.MaxNodes), networkOf(2, [2]int64{0, 1}, [2]int64{1, 0}), largestNetwork(),
		networkOf(3, [2]int64{0, 1}, [2]int64{1, 2}, [2]int64{2, 0}),
		// As many pipes as in a tree, but a ring and a node apart.
		networkOf(4, [2]int64{0, 1}, [2]int64{1, 2}, [2]int64{2, 0}), networkOf(3, [2]int64{0, 1}, [2]int64{0, 1}),
		networkOf(4, [2]int64{0, 1}, [2]int64{2, 3}),
	}
	random := rand.New(rand.NewSource(26))
	for range 300 {
		tree := randomTree(random)
		isTree = append(isTree, tree)
		for _, p := range tree.Pipes {
			smaller, _ := impl.DropPipe(tree, p.Id)
			p.Id = "z"
			p.From, p.To = p.To, p.From
			greater, _ := impl.AddPipe(tree, p)
			isNot = append(isNot, smaller, greater)
		}
	}
	for _, n := range isTree {
		if !impl.IsTree(n) || len(n.Pipes) != len(n.Nodes)-1 {
			t.Errorf("IsTree(%+v) = %v", n, impl.IsTree(n))
		}
	}
	for _, n := range isNot {
		if impl.IsTree(n) {
			t.Errorf("IsTree(%+v) = true", n)
		}
	}
	for _, n := range randomNetworks(27) {
		want := countParts(joinedNodes(n, everyPipe)) == 1 && len(n.Pipes) == len(n.Nodes)-1
		if impl.IsTree(n) != want {
			t.Errorf("IsTree(%+v) = %v", n, !want)
		}
	}
}

func TestBridgePipes(t *testing.T) {
	cases := []struct {
		n    impl.Network
		want []int64
	}{
		{networkOf(1), nil}, {networkOf(4), nil}, {lineOf(4), []int64{0, 1, 2}},
		{networkOf(2, [2]int64{0, 1}, [2]int64{0, 1}), nil}, {networkOf(2, [2]int64{0, 1}, [2]int64{1, 0}), nil},
		// A ring with a pipe at it, and one in another part.
		{networkOf(6, [2]int64{5, 4}, [2]int64{0, 1}, [2]int64{2, 1}, [2]int64{2, 0}, [2]int64{3, 2}), []int64{0, 4}},
		// Two rings with one pipe between them.
		{networkOf(5, [2]int64{0, 1}, [2]int64{0, 1}, [2]int64{2, 1}, [2]int64{2, 3}, [2]int64{3, 4}, [2]int64{4, 2}), []int64{2}},
	}
	for _, c := range cases {
		got, code := impl.BridgePipes(c.n)
		checkIndices(t, got, code, c.want, "BridgePipes", c.n)
	}
	for _, n := range append(validNetworks(), randomNetworks(28)...) {
		var want []int64
		for k := range int64(len(n.Pipes)) {
			if countParts(joinedNodes(n, everyPipeBut(k))) > countParts(joinedNodes(n, everyPipe)) {
				want = append(want, k)
			}
		}
		got, code := impl.BridgePipes(n)
		checkIndices(t, got, code, want, "BridgePipes", n)
	}
}

func TestReachedWithout(t *testing.T) {
	ring := networkOf(5, [2]int64{0, 1}, [2]int64{2, 1}, [2]int64{2, 3}, [2]int64{3, 0})
	cases := []struct {
		n      impl.Network
		from   int64
		closed []int64
		want   []int64
	}{
		{networkOf(1), 0, nil, []int64{0}}, {networkOf(3), 1, []int64{}, []int64{1}},
		{ring, 3, nil, []int64{0, 1, 2, 3}}, {ring, 4, nil, []int64{4}}, {ring, 2, []int64{0}, []int64{0, 1, 2, 3}},
		{ring, 0, []int64{0, 3}, []int64{0}}, {ring, 2, []int64{0, 3}, []int64{1, 2, 3}}, {ring, 1, []int64{1, 3}, []int64{0, 1}},
		{ring, 2, []int64{0, 1, 2, 3}, []int64{2}}, {ring, 0, []int64{1, 2}, []int64{0, 1, 3}},
		{networkOf(2, [2]int64{0, 1}, [2]int64{1, 0}), 0, []int64{0}, []int64{0, 1}},
		{networkOf(2, [2]int64{0, 1}, [2]int64{1, 0}), 1, []int64{0, 1}, []int64{1}},
		{lineOf(impl.MaxNodes), 15, []int64{14}, []int64{15}}, {lineOf(impl.MaxNodes), 15, []int64{0}, first(impl.MaxNodes)[1:]},
		{lineOf(impl.MaxNodes), 0, nil, first(impl.MaxNodes)}, {lineOf(impl.MaxNodes), 15, nil, first(impl.MaxNodes)},
	}
	for _, c := range cases {
		got, code := impl.ReachedWithout(c.n, c.from, c.closed)
		checkIndices(t, got, code, c.want, "ReachedWithout", c.n, c.from, c.closed)
	}
	random := rand.New(rand.NewSource(31))
	for _, n := range append(validNetworks(), randomNetworks(32)...) {
		var closed []int64
		for k := range n.Pipes {
			if random.Intn(3) == 0 {
				closed = append(closed, int64(k))
			}
		}
		joined := joinedNodes(n, func(k int64) bool { return !slices.Contains(closed, k) })
		for from := range int64(len(n.Nodes)) {
			var want []int64
			for node, reached := range joined[from] {
				if reached {
					want = append(want, int64(node))
				}
			}
			got, code := impl.ReachedWithout(n, from, closed)
			checkIndices(t, got, code, want, "ReachedWithout", n, from, closed)
		}
	}
}

func TestReachedWithoutRefuses(t *testing.T) {
	for _, n := range validNetworks() {
		for _, node := range beyond(0, int64(len(n.Nodes))-1) {
			got, code := impl.ReachedWithout(n, node, nil)
			checkRefused(t, got, code, impl.ErrRange, "ReachedWithout", n, node)
		}
		pipes := int64(len(n.Pipes))
		for _, closed := range [][]int64{{-1}, {pipes}, {0, pipes}, {-1, 0}, {0, 0}, {1, 0}, {0, 1, 1}, {0, 2, 1}, {math.MaxInt64}, {math.MinInt64}} {
			got, code := impl.ReachedWithout(n, 0, closed)
			checkRefused(t, got, code, impl.ErrRange, "ReachedWithout", n, closed)
		}
	}
	// The greatest lists that are just possible, and one number more.
	full := largestNetwork()
	every := first(impl.MaxPipes)
	got, code := impl.ReachedWithout(full, 15, every)
	checkIndices(t, got, code, []int64{15}, "ReachedWithout", every)
	got, code = impl.ReachedWithout(full, 15, append(every, impl.MaxPipes))
	checkRefused(t, got, code, impl.ErrRange, "ReachedWithout", every)
}

func TestNetworksAreReadBack(t *testing.T) {
	texts := []string{
		"0", "-100000", "100000,-100000,0", strings.TrimSuffix(strings.Repeat("-7,", 16), ","),
		"0,100/main 0,1,500,100,300", "0,100,200/a 1,0,1,20,0/b 1,2,10000,1000,5000/b0 0,1,1,20,0",
	}
	for _, s := range texts {
		n, ok := impl.ReadNetwork(s)
		if !ok || !impl.ValidNetwork(n) || impl.NetworkText(n) != s {
			t.Errorf("ReadNetwork(%q) = %+v, %v", s, n, ok)
		}
	}
	want := impl.Network{Nodes: []int64{0, 100}, Pipes: []impl.Pipe{mainPipe()}}
	if n, ok := impl.ReadNetwork(texts[4]); !ok || !reflect.DeepEqual(n, want) || impl.NetworkText(want) != texts[4] {
		t.Errorf("ReadNetwork(%q) = %+v, %v", texts[4], n, ok)
	}
	for _, n := range append(validNetworks(), randomNetworks(33)...) {
		if got, ok := impl.ReadNetwork(impl.NetworkText(n)); !ok || !impl.SameNetwork(got, n) {
			t.Errorf("ReadNetwork(%q) = %+v, %v", impl.NetworkText(n), got, ok)
		}
	}
}

func TestReadNetworkRefuses(t *testing.T) {
	texts := []string{
		"", " ", "a", "7a", "\x00", "\xff", "1,,2", "9223372036854775808", strings.Repeat("1,", 5000), strings.Repeat("9", 5000),
		"/", "0/", "/0", "0//", "0,", ",0", "-", "-/", "0,0 ", " 0,0", "00", "+1", "-0", "0, 0", "0,0\n", "100001", "-100001",
		strings.TrimSuffix(strings.Repeat("0,", 17), ","), "main 0,1,500,100,300", "/main 0,1,500,100,300",
		"-/main 0,1,500,100,300", "0/main 0,1,500,100,300", "0,0/main 0,2,500,100,300", "0,0/main 2,0,500,100,300",
		"0,0/main 0,1,500,100,300/", "0,0//main 0,1,500,100,300", "0,0 /main 0,1,500,100,300", "0,0/ main 0,1,500,100,300",
		"0,0/main 0,1,500,100,300 /z 0,1,1,20,0", "0,0/main 0,1,500,100,300,z 0,1,1,20,0", "0,0/main  0,1,500,100,300",
		"0,0/main 0,01,500,100,300", "0,0/main 0,1,500,19,300", "0,0/main 0,0,500,100,300", "0,0/Main 0,1,500,100,300",
		"0,0 main 0,1,500,100,300", "0,0,main 0,1,500,100,300", "0,0/b 0,1,1,20,0/a 0,1,1,20,0", "0,0/a 0,1,1,20,0/a 0,1,1,20,0",
		"0,0/a 0,1,1,20,0/0,0", "0,0\x00/a 0,1,1,20,0", "0,0/a 0,1,1,20,0\x00",
		impl.NetworkText(largestNetwork()) + "/z 0,1,1,20,0", impl.NetworkText(largestNetwork()) + "/",
		strings.Repeat("/", 5000), "0,0" + strings.Repeat("/a 0,1,1,20,0", 5000),
	}
	for _, s := range texts {
		if n, ok := impl.ReadNetwork(s); ok || len(n.Nodes) != 0 || len(n.Pipes) != 0 {
			t.Errorf("ReadNetwork(%q) = %+v, %v", s, n, ok)
		}
	}
}

func TestReadNetworkGivesOnlyNetworkTexts(t *testing.T) {
	// One byte of a text is changed; what is still read must be the text of what was read.
	random := rand.New(rand.NewSource(34))
	text := impl.NetworkText(lineOf(4))
	read := 0
	for range 20000 {
		changed := []byte(text)
		changed[random.Intn(len(changed))] = "0123456789,/- pa\n"[random.Intn(17)]
		n, ok := impl.ReadNetwork(string(changed))
		if ok {
			read++
		}
		if ok && impl.NetworkText(n) != string(changed) {
			t.Errorf("ReadNetwork(%q) = %+v", changed, n)
		}
	}
	if read == 0 {
		t.Error("none of the changed texts is read")
	}
}

// The other tests take their limits from the program, so these are written out.
func TestConstantsOfNetworks(t *testing.T) {
	if impl.MaxPipes != 20 || impl.MaxElevation != 100000 {
		t.Errorf("the constants are %d and %d", impl.MaxPipes, impl.MaxElevation)
	}
}
