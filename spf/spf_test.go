package spf_test

import (
	"math"
	"slices"
	"testing"

	"leafmesh/api"
	"leafmesh/spf"
)

// far are numbers far outside of any range; some of them are small in their lower bits.
var far = []int{math.MinInt, math.MinInt + 1, math.MinInt32, -1 << 32, -256, -128, -32, -2, -1, 1 << 16, math.MaxInt32, 1 << 32, 1<<32 + 1, math.MaxInt}

// input is a network: a number of nodes, the links, and which of them are up.
type input struct {
	nodes int
	links []api.Link
	up    []bool
}

// allUp returns a network in which all links are up.
func allUp(nodes int, links ...api.Link) input {
	return input{nodes, links, slices.Repeat([]bool{true}, len(links))}
}

// without returns the network with other links down than before.
func (x input) without(down ...int) input {
	x.up = slices.Clone(x.up)
	for _, i := range down {
		x.up[i] = false
	}
	return x
}

func (x input) dist(from int) []int     { return spf.Dist(x.nodes, x.links, x.up, from) }
func (x input) next(from, to int) []int { return spf.Next(x.nodes, x.links, x.up, from, to) }
func (x input) paths(from, to int) int  { return spf.Paths(x.nodes, x.links, x.up, from, to) }
func (x input) parents(from int) []int  { return spf.Parents(x.nodes, x.links, x.up, from) }
func (x input) path(from, to int) []int { return spf.Path(x.nodes, x.links, x.up, from, to) }

// example returns the network of the chapter's examples.
func example() input {
	return allUp(5, api.Link{A: 0, B: 2, Cost: 1}, api.Link{A: 0, B: 3, Cost: 1}, api.Link{A: 1, B: 2, Cost: 2},
		api.Link{A: 1, B: 3, Cost: 2}, api.Link{A: 1, B: 3, Cost: 2}, api.Link{A: 0, B: 1, Cost: 9})
}

// same fails the test unless a list of numbers is as wanted.
func same(t *testing.T, what string, got []int, want ...int) {
	t.Helper()
	if !slices.Equal(got, want) {
		t.Errorf("%s: %v, want %v", what, got, want)
	}
}

// P10.1, P10.2, P10.3: the examples of the chapter.
func TestExamples(t *testing.T) {
	x := example()
	same(t, "Dist(0)", x.dist(0), 0, 3, 1, 1, -1)
	same(t, "Dist(4)", x.dist(4), -1, -1, -1, -1, 0)
	same(t, "Next(0, 1)", x.next(0, 1), 0, 1)
	same(t, "Next(1, 0)", x.next(1, 0), 2, 3, 4)
	same(t, "Paths", []int{x.paths(0, 1), x.paths(0, 0), x.paths(0, 4)}, 3, 1, 0)
	same(t, "Parents(0)", x.parents(0), -1, 2, 0, 1, -1)
	same(t, "Path(0, 1)", x.path(0, 1), 0, 2)
	same(t, "Path(1, 0)", x.path(1, 0), 2, 0)
	y := x.without(0)
	same(t, "Next(0, 1) without 0", y.next(0, 1), 1)
	same(t, "Paths(0, 1) without 0", []int{y.paths(0, 1)}, 2)
	same(t, "Path(0, 2) without 0", y.path(0, 2), 1, 3, 2)
	z := x.without(0, 1)
	same(t, "Dist(0) without 0 and 1", z.dist(0), 0, 9, 11, 11, -1)
	same(t, "Next(0, 2) without 0 and 1", z.next(0, 2), 5)
	if got := x.dist(5); got != nil {
		t.Errorf("Dist(5) = %v", got)
	}
	x.up = x.up[:5]
	if got := x.next(0, 1); got != nil {
		t.Errorf("Next with 5 flags = %v", got)
	}
	x = example()
	x.links[2].Cost = 0
	same(t, "Paths with a cost of 0", []int{x.paths(0, 1)}, 0)
}

// P10.1, P10.2, P10.3: from a node to itself, and where there is no path, there are no links, and one path or none.
func TestNone(t *testing.T) {
	x := example()
	for _, to := range []int{0, 4} {
		same(t, "Next", x.next(0, to))
		same(t, "Next, backward", x.next(to, 0))
		same(t, "Path", x.path(0, to))
		same(t, "Path, backward", x.path(to, 0))
	}
	same(t, "Paths(4, 4)", []int{x.paths(4, 4)}, 1)
	same(t, "Paths(4, 0)", []int{x.paths(4, 0)}, 0)
	same(t, "Parents(4)", x.parents(4), -1, -1, -1, -1, -1)
	one := allUp(1)
	same(t, "Dist of one node", one.dist(0), 0)
	same(t, "Parents of one node", one.parents(0), -1)
	same(t, "Next of one node", one.next(0, 0))
	same(t, "Path of one node", one.path(0, 0))
	same(t, "Paths of one node", []int{one.paths(0, 0)}, 1)
	down := allUp(2, api.Link{A: 0, B: 1, Cost: 1}).without(0)
	same(t, "Dist over a link that is down", down.dist(0), 0, -1)
	same(t, "Parents over a link that is down", down.parents(0), -1, -1)
	same(t, "Next over a link that is down", down.next(0, 1))
	same(t, "Path over a link that is down", down.path(0, 1))
	same(t, "Paths over a link that is down", []int{down.paths(0, 1)}, 0)
}

// P10.2, P10.3: of parallel links only the cheapest ones count, and the chosen path takes the smallest one of them.
func TestParallel(t *testing.T) {
	x := allUp(2, api.Link{A: 1, B: 0, Cost: 3}, api.Link{A: 0, B: 1, Cost: 2}, api.Link{A: 1, B: 0, Cost: 2}, api.Link{A: 0, B: 1, Cost: 7})
	same(t, "Dist", x.dist(1), 2, 0)
	same(t, "Next", x.next(0, 1), 1, 2)
	same(t, "Next, backward", x.next(1, 0), 1, 2)
	same(t, "Paths", []int{x.paths(0, 1)}, 2)
	same(t, "Parents", x.parents(0), -1, 1)
	same(t, "Path", x.path(0, 1), 1)
	y := x.without(1)
	same(t, "Next without 1", y.next(0, 1), 2)
	same(t, "Path without 1", y.path(1, 0), 2)
	z := y.without(2)
	same(t, "Next without 1 and 2", z.next(1, 0), 0)
	same(t, "Dist without 1 and 2", z.dist(0), 0, 3)
}

// P10.3: the chosen path is chosen from its end: the smallest last link counts, whatever the links before it are; and the way back may be another one.
func TestChosenFromEnd(t *testing.T) {
	x := allUp(4, api.Link{A: 0, B: 1, Cost: 1}, api.Link{A: 2, B: 3, Cost: 1}, api.Link{A: 1, B: 3, Cost: 1}, api.Link{A: 0, B: 2, Cost: 1})
	same(t, "Path(0, 3)", x.path(0, 3), 3, 1)
	same(t, "Path(3, 0)", x.path(3, 0), 2, 0)
	same(t, "Parents(0)", x.parents(0), -1, 0, 3, 1)
	same(t, "Parents(3)", x.parents(3), 0, 2, 1, -1)
}

// P10.1: a longer way over more links is taken if it is shorter in sum, also where a node was reached by another way before.
func TestDetour(t *testing.T) {
	x := allUp(5, api.Link{A: 0, B: 4, Cost: 1000}, api.Link{A: 0, B: 3, Cost: 8}, api.Link{A: 3, B: 4, Cost: 1}, api.Link{A: 0, B: 2, Cost: 4},
		api.Link{A: 2, B: 3, Cost: 2}, api.Link{A: 0, B: 1, Cost: 1}, api.Link{A: 1, B: 2, Cost: 1})
	same(t, "Dist", x.dist(0), 0, 1, 2, 4, 5)
	same(t, "Next", x.next(0, 4), 5)
	same(t, "Path", x.path(0, 4), 5, 6, 4, 2)
	same(t, "Parents", x.parents(0), -1, 5, 6, 4, 2)
	same(t, "Paths", []int{x.paths(0, 4)}, 1)
}

// P10.1: the greatest distance that there is, 31 links of the greatest cost.
func TestLongest(t *testing.T) {
	var links []api.Link
	var want, path []int
	for n := range 32 {
		want = append(want, 1000*n)
		if n > 0 {
			links = append(links, api.Link{A: n, B: n - 1, Cost: 1000})
			path = append(path, n-1)
		}
	}
	x := allUp(32, links...)
	same(t, "Dist", x.dist(0), want...)
	same(t, "Path", x.path(0, 31), path...)
	same(t, "Next", x.next(0, 31), 0)
	slices.Reverse(want)
	slices.Reverse(path)
	same(t, "Dist, backward", x.dist(31), want...)
	same(t, "Path, backward", x.path(31, 0), path...)
}
