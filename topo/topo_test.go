package topo_test

import (
	"math"
	"slices"
	"testing"

	"leafmesh/api"
	"leafmesh/topo"
)

// far are numbers far outside of any range; some of them are small in their lower bits.
var far = []int{math.MinInt, math.MinInt + 1, math.MinInt32, -1 << 32, -256, -128, -64, -32, -2, 1 << 16, math.MaxInt32, 1 << 32, 1<<32 + 1, math.MaxInt}

// around returns the numbers from -1 to n, and numbers far outside of that range.
func around(n int) []int {
	out := slices.Clone(far)
	for i := -1; i <= n; i++ {
		out = append(out, i)
	}
	return append(out, n+1, n+31, n+32, n+63, n+64, n+128)
}

// exampleLinks returns the links of the chapter's example.
func exampleLinks() []api.Link {
	return []api.Link{{A: 0, B: 2, Cost: 1}, {A: 1, B: 2, Cost: 5}, {A: 0, B: 3, Cost: 1}, {A: 1, B: 2, Cost: 7}}
}

// newGraph returns a graph that must be valid.
func newGraph(t *testing.T, nodes int, links []api.Link) *topo.Graph {
	t.Helper()
	g, err := topo.New(nodes, links)
	if g == nil || err != api.OK {
		t.Fatalf("New(%d, %v) = %v %d", nodes, links, g, err)
	}
	return g
}

// checkNew fails the test unless New says what the model says, which it returns.
func checkNew(t *testing.T, nodes int, links []api.Link) api.Errno {
	t.Helper()
	before := slices.Clone(links)
	want := modelCheck(nodes, links)
	g, err := topo.New(nodes, links)
	if err != want || (g == nil) != (want != api.OK) {
		t.Fatalf("New(%d, %v) = %v %d, want %d", nodes, links, g, err, want)
	}
	if !slices.Equal(links, before) {
		t.Fatalf("New changed %v to %v", before, links)
	}
	if err == api.OK {
		newModel(nodes, links).check(t, g)
	}
	return want
}

// wants fails the test unless New returns an error.
func wants(t *testing.T, want api.Errno, nodes int, links ...api.Link) {
	t.Helper()
	if got := checkNew(t, nodes, links); got != want {
		t.Errorf("New(%d, %v): %d, want %d", nodes, links, got, want)
	}
}

// P9.1: the numbers of nodes that New accepts; a wrong one counts before the links.
func TestNewNodes(t *testing.T) {
	tooMany := make([]api.Link, 129)
	for _, n := range append([]int{0, 1, 2, 3, 16, 30, 31, 32, 33, 34, 63, 64, 65, 127, 128, 129}, far...) {
		if n >= 1 && n <= 32 {
			wants(t, api.OK, n)
			wants(t, api.ErrLong, n, tooMany...)
			continue
		}
		wants(t, api.ErrRange, n)
		wants(t, api.ErrRange, n, tooMany...)
		wants(t, api.ErrRange, n, api.Link{})
		wants(t, api.ErrRange, n, api.Link{A: 0, B: 1, Cost: 1})
	}
}

// P9.1: a graph without links, and one of the greatest size, in which all is up.
func TestNewSizes(t *testing.T) {
	wants(t, api.OK, 1)
	wants(t, api.OK, 32)
	var links []api.Link
	for i := range 200 {
		links = append(links, api.Link{A: i % 32, B: (i + 1 + i/32) % 32, Cost: 1 + 5*i})
	}
	for n := range 200 {
		want := api.OK
		if n > 128 {
			want = api.ErrLong
		}
		wants(t, want, 32, links[:n]...)
	}
}

// P9.1: too many links count before each of them.
func TestNewLong(t *testing.T) {
	good, loop, bad := api.Link{A: 0, B: 1, Cost: 1}, api.Link{A: 1, B: 1, Cost: 1}, api.Link{A: 0, B: 2, Cost: 1}
	for _, count := range []int{128, 129, 130, 256, 1 << 16} {
		for _, wrong := range []api.Link{good, loop, bad} {
			for _, at := range []int{0, 1, 127} {
				links := slices.Repeat([]api.Link{good}, count)
				links[at] = wrong
				want := map[api.Link]api.Errno{good: api.OK, loop: api.ErrLoop, bad: api.ErrRange}[wrong]
				if count > 128 {
					want = api.ErrLong
				}
				wants(t, want, 2, links...)
			}
		}
	}
}

// P9.1: the ends and the cost of a link have ranges.
func TestNewRanges(t *testing.T) {
	for _, nodes := range []int{1, 2, 3, 8, 31, 32} {
		for _, n := range around(nodes) {
			for _, other := range []int{0, nodes - 1} {
				want := api.OK
				switch {
				case n < 0 || n >= nodes:
					want = api.ErrRange
				case n == other:
					want = api.ErrLoop
				}
				wants(t, want, nodes, api.Link{A: n, B: other, Cost: 1})
				wants(t, want, nodes, api.Link{A: other, B: n, Cost: 1})
			}
		}
	}
	for _, cost := range append([]int{-1, 0, 1, 2, 500, 999, 1000, 1001, 1002, 1024, 65536 + 1}, far...) {
		want := api.OK
		if cost < 1 || cost > 1000 {
			want = api.ErrRange
		}
		wants(t, want, 2, api.Link{A: 0, B: 1, Cost: cost})
		wants(t, want, 32, api.Link{A: 31, B: 0, Cost: cost})
	}
}

// P9.1: of one link the ranges count before the loop, also that of its cost; links are checked one after the other.
func TestNewOrder(t *testing.T) {
	good, loop, bad := api.Link{A: 0, B: 1, Cost: 1}, api.Link{A: 1, B: 1, Cost: 1}, api.Link{A: 0, B: 1, Cost: 0}
	for _, l := range []api.Link{{}, {A: 0, B: 0, Cost: 1001}, {A: -1, B: -1, Cost: 1}, {A: 2, B: 2, Cost: 1}, {A: 2, B: 2, Cost: 0}, {A: 1, B: 1, Cost: -1}} {
		wants(t, api.ErrRange, 2, l)
		wants(t, api.ErrRange, 2, l, loop)
		wants(t, api.ErrRange, 2, good, l, loop)
		wants(t, api.ErrLoop, 2, loop, l)
		wants(t, api.ErrLoop, 2, good, loop, good, l)
	}
	wants(t, api.ErrRange, 2, bad, loop)
	wants(t, api.ErrLoop, 2, loop, bad)
	wants(t, api.ErrLoop, 2, good, good, loop)
	wants(t, api.ErrRange, 2, good, good, bad)
	wants(t, api.OK, 2, good, good, good)
}

// P9.1 to P9.4: the examples of the chapter.
func TestExamples(t *testing.T) {
	g := newGraph(t, 4, exampleLinks())
	if got := g.Neighbors(2); !slices.Equal(got, []api.Edge{{Link: 0, Node: 0, Cost: 1}, {Link: 1, Node: 1, Cost: 5}, {Link: 3, Node: 1, Cost: 7}}) {
		t.Error(got)
	}
	if got := g.Between(2, 1); !slices.Equal(got, []int{1, 3}) {
		t.Error(got)
	}
	if got := g.Component(0); !slices.Equal(got, []int{0, 1, 2, 3}) {
		t.Error(got)
	}
	if err := g.SetLink(0, false); err != api.OK {
		t.Error(err)
	}
	if got := g.Component(0); !slices.Equal(got, []int{0, 3}) {
		t.Error(got)
	}
	if got := g.Components(); !sameLists(got, [][]int{{0, 3}, {1, 2}}) {
		t.Error(got)
	}
	if got := g.Flags(); !slices.Equal(got, []bool{false, true, true, true}) {
		t.Error(got)
	}
	if err := g.SetNode(2, false); err != api.OK {
		t.Error(err)
	}
	if got := g.Neighbors(1); len(got) != 0 {
		t.Error(got)
	}
	if got := g.Components(); !sameLists(got, [][]int{{0, 3}, {1}}) {
		t.Error(got)
	}
	if g.Up(1) || g.Alive(2) {
		t.Error(g.Up(1), g.Alive(2))
	}
	if a, b := g.SetNode(2, true), g.SetLink(0, true); a != api.OK || b != api.OK {
		t.Error(a, b)
	}
	if got := g.Component(3); !slices.Equal(got, []int{0, 1, 2, 3}) {
		t.Error(got)
	}
	if err := g.SetLink(4, true); err != api.ErrRange {
		t.Error(err)
	}
	if got := g.Between(2, 2); len(got) != 0 {
		t.Error(got)
	}
	wants(t, api.ErrRange, 0)
	wants(t, api.ErrRange, 2, api.Link{A: 0, B: 2, Cost: 1})
	wants(t, api.ErrLoop, 2, api.Link{A: 0, B: 0, Cost: 1})
	wants(t, api.ErrRange, 2, api.Link{A: 0, B: 1, Cost: 0})
	wants(t, api.ErrLong, 2, make([]api.Link, 129)...)
}

// P9.2: each link and each node is set alone, down and up again, also twice.
func TestSet(t *testing.T) {
	for _, size := range []struct{ nodes, links int }{{2, 1}, {5, 10}, {32, 63}, {32, 64}, {32, 65}, {32, 128}} {
		var links []api.Link
		for i := range size.links {
			a := i % size.nodes
			links = append(links, api.Link{A: a, B: (a + 1 + i%(size.nodes-1)) % size.nodes, Cost: 1 + i})
		}
		g, m := newGraph(t, size.nodes, links), newModel(size.nodes, links)
		for _, up := range []bool{true, false, false, true} {
			for i := range links {
				if err := g.SetLink(i, up); err != api.OK {
					t.Errorf("SetLink(%d, %v) = %d", i, up, err)
				}
				m.intact[i] = up
				m.check(t, g)
			}
		}
		for _, up := range []bool{true, false, false, true} {
			for n := range size.nodes {
				if err := g.SetNode(n, up); err != api.OK {
					t.Errorf("SetNode(%d, %v) = %d", n, up, err)
				}
				m.alive[n] = up
				m.check(t, g)
			}
		}
	}
}

// P9.2: a link or node that there is not gives ErrRange, and nothing is changed.
func TestSetRange(t *testing.T) {
	for _, size := range []struct{ nodes, links int }{{1, 0}, {2, 0}, {2, 1}, {2, 128}, {8, 63}, {31, 64}, {32, 65}, {32, 128}} {
		links := make([]api.Link, size.links)
		for i := range links {
			links[i] = api.Link{A: 0, B: 1, Cost: 1}
		}
		g, m := newGraph(t, size.nodes, links), newModel(size.nodes, links)
		for _, up := range []bool{false, true} {
			for _, i := range around(size.links) {
				if got, want := g.SetLink(i, up), set(m.intact, i, up); got != want {
					t.Errorf("SetLink(%d, %v) of %d = %d, want %d", i, up, size.links, got, want)
				}
			}
			m.check(t, g)
			for _, n := range around(size.nodes) {
				if got, want := g.SetNode(n, up), set(m.alive, n, up); got != want {
					t.Errorf("SetNode(%d, %v) of %d = %d, want %d", n, up, size.nodes, got, want)
				}
			}
			m.check(t, g)
		}
	}
}

// P9.2: a link keeps its own state while one of its nodes, or both, are down, and can be set then.
func TestLinkKeepsState(t *testing.T) {
	for _, down := range [][]int{{0}, {1}, {0, 1}} {
		for _, before := range []bool{false, true} {
			for _, during := range []bool{false, true} {
				g := newGraph(t, 2, []api.Link{{A: 0, B: 1, Cost: 1}, {A: 1, B: 0, Cost: 2}})
				g.SetLink(0, before)
				g.SetLink(1, before)
				for _, n := range down {
					g.SetNode(n, false)
				}
				g.SetLink(1, during)
				if g.Up(0) || g.Up(1) {
					t.Errorf("%v down: the links can be used", down)
				}
				for i, n := range down {
					if g.Up(0) || g.Up(1) {
						t.Errorf("%v up of %v: the links can be used", down[:i], down)
					}
					g.SetNode(n, true)
				}
				if g.Up(0) != before || g.Up(1) != during {
					t.Errorf("%v were down: %v %v, want %v %v", down, g.Up(0), g.Up(1), before, during)
				}
			}
		}
	}
}
