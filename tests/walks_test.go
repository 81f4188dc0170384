package tests

import (
	"math/rand"
	"testing"

	"loop.example/g01011/impl"
)

// The second half of promise 5: walks lead where they should.

// firstWalkOf tries walks of 0, 1 and more pipes in the order of the document, and returns the first one that arrives.
func firstWalkOf(n impl.Network, from, to int64) ([]int64, bool) {
	for pipes := range len(n.Nodes) {
		if w, ok := walkOf(n, from, to, pipes); ok {
			return w, true
		}
	}
	return nil, false
}

func walkOf(n impl.Network, from, to int64, pipes int) ([]int64, bool) {
	if pipes == 0 {
		return nil, from == to
	}
	for k := range int64(len(n.Pipes)) {
		for _, number := range []int64{k + 1, -k - 1} {
			begin, end := endsOf(n, number)
			if begin != from {
				continue
			}
			if rest, ok := walkOf(n, end, to, pipes-1); ok {
				return append([]int64{number}, rest...), true
			}
		}
	}
	return nil, false
}

// endsOf returns where a pipe of a walk begins and ends in its direction.
func endsOf(n impl.Network, number int64) (int64, int64) {
	p := n.Pipes[magnitude(number)-1]
	if number < 0 {
		return p.To, p.From
	}
	return p.From, p.To
}

func TestPathOf(t *testing.T) {
	// A square whose pipes run in different directions; 4 stands apart.
	square := networkOf(5, [2]int64{2, 3}, [2]int64{0, 1}, [2]int64{2, 0}, [2]int64{1, 3})
	parallel := networkOf(3, [2]int64{1, 0}, [2]int64{0, 1}, [2]int64{0, 1}, [2]int64{2, 1}, [2]int64{1, 2})
	cases := []struct {
		n        impl.Network
		from, to int64
		want     []int64
	}{
		{networkOf(1), 0, 0, nil}, {square, 0, 0, nil}, {square, 4, 4, nil}, {square, 0, 1, []int64{2}},
		{square, 1, 0, []int64{-2}}, {square, 2, 0, []int64{3}}, {square, 0, 2, []int64{-3}},
		// Here two walks are as long: the one whose first pipe has the lesser index comes first, so it's another way back.
		{square, 0, 3, []int64{2, 4}}, {square, 3, 0, []int64{-1, 3}},
		{square, 1, 2, []int64{-2, -3}}, {square, 2, 1, []int64{1, -4}},
		{parallel, 0, 1, []int64{-1}}, {parallel, 1, 0, []int64{1}},
		{parallel, 0, 2, []int64{-1, -4}}, {parallel, 2, 0, []int64{4, 1}},
		{lineOf(4), 0, 3, []int64{1, -2, 3}}, {lineOf(4), 3, 0, []int64{-3, 2, -1}}, {lineOf(4), 2, 1, []int64{2}},
		{lineOf(16), 0, 15, []int64{1, -2, 3, -4, 5, -6, 7, -8, 9, -10, 11, -12, 13, -14, 15}},
		{lineOf(16), 15, 0, []int64{-15, 14, -13, 12, -11, 10, -9, 8, -7, 6, -5, 4, -3, 2, -1}},
		// The walk of one pipe is chosen, though the others have lesser indices.
		{networkOf(3, [2]int64{0, 1}, [2]int64{1, 2}, [2]int64{2, 0}), 0, 2, []int64{-3}},
		// The second pipe decides; the greatest index of both walks is that of the better one.
		{networkOf(5, [2]int64{0, 1}, [2]int64{0, 2}, [2]int64{2, 4}, [2]int64{1, 3}, [2]int64{4, 3}, [2]int64{1, 4}), 0, 4, []int64{1, 6}},
	}
	for _, c := range cases {
		got, code := impl.PathOf(c.n, c.from, c.to)
		checkIndices(t, got, code, c.want, "PathOf", c.n, c.from, c.to)
	}
	for node := range int64(4) {
		for _, ends := range [][2]int64{{4, node}, {node, 4}} {
			got, code := impl.PathOf(square, ends[0], ends[1])
			checkRefused(t, got, code, impl.ErrNotFound, "PathOf", ends)
		}
	}
}

func TestPathOfIsTheFirstWalk(t *testing.T) {
	random := rand.New(rand.NewSource(29))
	for range 700 {
		n := randomNetwork(random, 6, 9)
		for from := range int64(len(n.Nodes)) {
			for to := range int64(len(n.Nodes)) {
				want, ok := firstWalkOf(n, from, to)
				got, code := impl.PathOf(n, from, to)
				if ok {
					checkIndices(t, got, code, want, "PathOf", n, from, to)
				} else {
					checkRefused(t, got, code, impl.ErrNotFound, "PathOf", n, from, to)
				}
			}
		}
	}
}

func TestWalksLeadWhereTheyShould(t *testing.T) {
	for _, n := range append(validNetworks(), randomNetworks(30)...) {
		joined := joinedNodes(n, everyPipe)
		for from := range int64(len(n.Nodes)) {
			for to := range int64(len(n.Nodes)) {
				w, code := impl.PathOf(n, from, to)
				if !joined[from][to] {
					checkRefused(t, w, code, impl.ErrNotFound, "PathOf", n, from, to)
					continue
				}
				at := from
				for _, number := range w {
					begin, end := endsOf(n, number)
					if begin != at {
						t.Errorf("PathOf(%+v, %d, %d) = %d has a gap", n, from, to, w)
					}
					at = end
				}
				back, _ := impl.PathOf(n, to, from)
				if at != to || code != impl.OK || len(back) != len(w) {
					t.Errorf("PathOf(%+v, %d, %d) = %d, %d, and back %d", n, from, to, w, code, back)
				}
			}
		}
	}
}

func TestPathOfRefuses(t *testing.T) {
	for _, n := range validNetworks() {
		for _, node := range beyond(0, int64(len(n.Nodes))-1) {
			for _, ends := range [][2]int64{{node, 0}, {0, node}, {node, node}} {
				got, code := impl.PathOf(n, ends[0], ends[1])
				checkRefused(t, got, code, impl.ErrRange, "PathOf", n, ends)
			}
		}
	}
}
