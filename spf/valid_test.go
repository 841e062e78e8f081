package spf_test

import (
	"slices"
	"testing"

	"leafmesh/api"
)

// checkNone fails the test unless all functions return nil, or 0, for an input.
func checkNone(t *testing.T, x input, from, to int) {
	t.Helper()
	checkNoneTo(t, x, from, to)
	if d, p := x.dist(from), x.parents(from); d != nil || p != nil {
		t.Errorf("%d nodes, %d links, %d flags, from %d: Dist %v, Parents %v", x.nodes, len(x.links), len(x.up), from, d, p)
	}
}

// checkNoneTo does the same for the functions of two nodes.
func checkNoneTo(t *testing.T, x input, from, to int) {
	t.Helper()
	if n, p, count := x.next(from, to), x.path(from, to), x.paths(from, to); n != nil || p != nil || count != 0 {
		t.Errorf("%d nodes, %d links, %d flags, from %d to %d: Next %v, Path %v, Paths %d", x.nodes, len(x.links), len(x.up), from, to, n, p, count)
	}
}

// checkSome fails the test unless an input is taken as valid.
func checkSome(t *testing.T, x input, from, to int) {
	t.Helper()
	if d, p := x.dist(from), x.parents(from); len(d) != x.nodes || len(p) != x.nodes {
		t.Errorf("%d nodes, %d links, %d flags, from %d: Dist %v, Parents %v", x.nodes, len(x.links), len(x.up), from, d, p)
	}
	if got := x.paths(to, to); got != 1 {
		t.Errorf("%d nodes, %d links, %d flags: %d paths from %d to itself", x.nodes, len(x.links), len(x.up), got, to)
	}
	x.next(from, to)
	x.path(from, to)
}

// P10.1, P10.2, P10.3: the number of nodes is from 1 to 32.
func TestNodes(t *testing.T) {
	for n := -3; n <= 70; n++ {
		x := allUp(n)
		if n >= 1 && n <= 32 {
			checkSome(t, x, 0, n-1)
			checkSome(t, x, n-1, 0)
		} else {
			checkNone(t, x, 0, 0)
			checkNone(t, x, n-1, n-1)
		}
	}
	for _, n := range far {
		checkNone(t, allUp(n), 0, 0)
		checkNone(t, allUp(n, api.Link{A: 0, B: 1, Cost: 1}), 0, 1)
	}
}

// P10.1, P10.2, P10.3: the nodes that are asked about exist.
func TestAsked(t *testing.T) {
	for _, nodes := range []int{1, 2, 5, 31, 32} {
		x := allUp(nodes)
		for _, bad := range append([]int{nodes, nodes + 1, 32, 33, 64}, far...) {
			if bad >= 0 && bad < nodes {
				continue
			}
			checkNone(t, x, bad, 0)
			checkNone(t, x, bad, nodes-1)
			checkNone(t, x, bad, bad)
			checkNoneTo(t, x, 0, bad)
			checkNoneTo(t, x, nodes-1, bad)
		}
		for n := range nodes {
			checkSome(t, x, n, nodes-1-n)
		}
	}
}

// P10.1, P10.2, P10.3: there are at most 128 links, and as many flags as links.
func TestCounts(t *testing.T) {
	link := api.Link{A: 0, B: 1, Cost: 1}
	for _, links := range []int{0, 1, 2, 127, 128, 129, 130, 256, 1 << 16} {
		for _, flags := range []int{0, 1, 2, 127, 128, 129, 130, 256, 1 << 16} {
			for _, up := range []bool{false, true} {
				x := input{2, slices.Repeat([]api.Link{link}, links), slices.Repeat([]bool{up}, flags)}
				if links != flags || links > 128 {
					checkNone(t, x, 0, 1)
					checkNone(t, x, 1, 1)
					continue
				}
				checkSome(t, x, 0, 1)
				if got, want := x.paths(0, 1), links; up && got != want {
					t.Errorf("%d links: %d paths", links, got)
				}
			}
		}
	}
}

// P10.1, P10.2, P10.3: each link has two different nodes as its ends, and a cost from 1 to 1,000, also if it is down, wherever it is in the list.
func TestLinks(t *testing.T) {
	good := api.Link{A: 0, B: 1, Cost: 1}
	bad := []api.Link{{}, {A: 0, B: 0, Cost: 1}, {A: 2, B: 2, Cost: 1}, {A: 3, B: 3, Cost: 1}, {A: 0, B: 3, Cost: 1}, {A: 3, B: 0, Cost: 1}, {A: 1, B: 31, Cost: 1}, {A: 1, B: 32, Cost: 1}, {A: 32, B: 1, Cost: 1}, {A: 0, B: 1, Cost: 0}, {A: 0, B: 1, Cost: 1001}}
	for _, n := range far {
		bad = append(bad, api.Link{A: n, B: 1, Cost: 1}, api.Link{A: 1, B: n, Cost: 1}, api.Link{A: n, B: n, Cost: 1}, api.Link{A: 0, B: 1, Cost: n})
	}
	for _, l := range bad {
		for _, before := range []int{0, 1, 5, 127} {
			for _, after := range []int{0, 1, 127 - before} {
				x := allUp(3, slices.Concat(slices.Repeat([]api.Link{good}, before), []api.Link{l}, slices.Repeat([]api.Link{good}, after))...)
				checkNone(t, x, 0, 1)
				checkNone(t, x.without(before), 2, 0)
			}
		}
	}
	for _, l := range []api.Link{{A: 0, B: 1, Cost: 1}, {A: 1, B: 0, Cost: 1000}, {A: 2, B: 0, Cost: 999}, {A: 1, B: 2, Cost: 2}} {
		checkSome(t, allUp(3, l), 0, 1)
		checkSome(t, allUp(3, good, l).without(1), 2, 0)
	}
	checkSome(t, allUp(32, api.Link{A: 31, B: 0, Cost: 1}, api.Link{A: 0, B: 31, Cost: 1}), 31, 0)
}
