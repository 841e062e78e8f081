package topo_test

import (
	"slices"
	"testing"

	"leafmesh/api"
	"leafmesh/topo"
)

// chain returns links that join the nodes to a chain, in a given order of the nodes.
func chain(order []int) []api.Link {
	var links []api.Link
	for i := 1; i < len(order); i++ {
		links = append(links, api.Link{A: order[i-1], B: order[i], Cost: i})
	}
	return links
}

// count returns the numbers from 0 to n-1.
func count(n int) []int {
	var out []int
	for i := range n {
		out = append(out, i)
	}
	return out
}

// P9.4: the links at a node are told by their number, the other end and the cost, from both ends, in the order of their numbers.
func TestNeighbors(t *testing.T) {
	g := newGraph(t, 5, []api.Link{{A: 3, B: 1, Cost: 1000}, {A: 0, B: 1, Cost: 1}, {A: 1, B: 3, Cost: 7}, {A: 2, B: 3, Cost: 8}, {A: 1, B: 0, Cost: 9}, {A: 1, B: 3, Cost: 7}})
	for n, want := range [][]api.Edge{
		{{Link: 1, Node: 1, Cost: 1}, {Link: 4, Node: 1, Cost: 9}},
		{{Link: 0, Node: 3, Cost: 1000}, {Link: 1, Node: 0, Cost: 1}, {Link: 2, Node: 3, Cost: 7}, {Link: 4, Node: 0, Cost: 9}, {Link: 5, Node: 3, Cost: 7}},
		{{Link: 3, Node: 3, Cost: 8}},
		{{Link: 0, Node: 1, Cost: 1000}, {Link: 2, Node: 1, Cost: 7}, {Link: 3, Node: 2, Cost: 8}, {Link: 5, Node: 1, Cost: 7}},
		nil,
	} {
		if got := g.Neighbors(n); !slices.Equal(got, want) {
			t.Errorf("Neighbors(%d) = %v, want %v", n, got, want)
		}
	}
	g.SetLink(2, false)
	if got, want := g.Neighbors(1), []api.Edge{{Link: 0, Node: 3, Cost: 1000}, {Link: 1, Node: 0, Cost: 1}, {Link: 4, Node: 0, Cost: 9}, {Link: 5, Node: 3, Cost: 7}}; !slices.Equal(got, want) {
		t.Errorf("with link 2 down: %v, want %v", got, want)
	}
	g.SetNode(0, false)
	if got, want := g.Neighbors(1), []api.Edge{{Link: 0, Node: 3, Cost: 1000}, {Link: 5, Node: 3, Cost: 7}}; !slices.Equal(got, want) {
		t.Errorf("with node 0 down: %v, want %v", got, want)
	}
	if got := g.Neighbors(0); len(got) != 0 {
		t.Errorf("of a node that is down: %v", got)
	}
}

// P9.4: the links between two nodes are the same from both sides; there are none between nodes that are not joined, at a node alone, or at a node that there is not.
func TestBetween(t *testing.T) {
	g := newGraph(t, 5, []api.Link{{A: 3, B: 1, Cost: 1000}, {A: 0, B: 1, Cost: 1}, {A: 1, B: 3, Cost: 7}, {A: 2, B: 3, Cost: 8}, {A: 1, B: 3, Cost: 7}})
	for _, x := range []struct {
		a, b int
		want []int
	}{
		{1, 3, []int{0, 2, 4}}, {0, 1, []int{1}}, {2, 3, []int{3}}, {0, 3, nil}, {0, 4, nil}, {0, 0, nil}, {1, 1, nil}, {3, 3, nil}, {4, 4, nil},
		{-1, 0, nil}, {-1, -1, nil}, {5, 0, nil}, {5, 5, nil}, {1, 1 << 32, nil}, {1, 3 + 1<<32, nil}, {1, 3 - 64, nil}, {1, 3 + 64, nil},
	} {
		if a, b := g.Between(x.a, x.b), g.Between(x.b, x.a); !slices.Equal(a, x.want) || !slices.Equal(b, x.want) {
			t.Errorf("Between %d and %d: %v and %v, want %v", x.a, x.b, a, b, x.want)
		}
	}
	g.SetLink(2, false)
	if got := g.Between(3, 1); !slices.Equal(got, []int{0, 4}) {
		t.Errorf("with link 2 down: %v", got)
	}
	g.SetNode(1, false)
	if got := g.Between(3, 1); len(got) != 0 {
		t.Errorf("with node 1 down: %v", got)
	}
	if got := g.Between(2, 3); !slices.Equal(got, []int{3}) {
		t.Errorf("with node 1 down, between others: %v", got)
	}
}

// checkParts fails the test unless the components are the wanted ones, also from each of their nodes, and nodes that are in none have none.
func checkParts(t *testing.T, g *topo.Graph, want ...[]int) {
	t.Helper()
	if got := g.Components(); !sameLists(got, want) {
		t.Errorf("Components = %v, want %v", got, want)
	}
	for n := range g.Nodes() {
		var part []int
		for _, p := range want {
			if slices.Contains(p, n) {
				part = p
			}
		}
		if got := g.Component(n); !slices.Equal(got, part) {
			t.Errorf("Component(%d) = %v, want %v", n, got, part)
		}
	}
}

// P9.4: without links each node is a component; one that is down is in none; a graph in which all nodes are down has none.
func TestComponentsAlone(t *testing.T) {
	for _, nodes := range []int{1, 2, 31, 32} {
		g := newGraph(t, nodes, nil)
		var want [][]int
		for n := range nodes {
			want = append(want, []int{n})
		}
		checkParts(t, g, want...)
		for n := range nodes {
			g.SetNode(n, false)
			checkParts(t, g, want[n+1:]...)
		}
		for n := range nodes {
			g.SetNode(n, true)
			checkParts(t, g, want[:n+1]...)
		}
	}
}

// P9.4: a component goes on as far as links can be used, in both directions, whatever the order of the nodes.
func TestComponentsChain(t *testing.T) {
	rising := count(32)
	falling := slices.Clone(rising)
	slices.Reverse(falling)
	mixed := make([]int, 32)
	for i := range mixed {
		mixed[i] = i * 13 % 32
	}
	for _, order := range [][]int{rising, falling, mixed} {
		g := newGraph(t, 32, chain(order))
		checkParts(t, g, rising)
		for cut := range 31 {
			g.SetLink(cut, false)
			a, b := slices.Clone(order[:cut+1]), slices.Clone(order[cut+1:])
			slices.Sort(a)
			slices.Sort(b)
			if b[0] < a[0] {
				a, b = b, a
			}
			checkParts(t, g, a, b)
			g.SetLink(cut, true)
		}
		for cut := 1; cut < 31; cut++ {
			g.SetNode(order[cut], false)
			a, b := slices.Clone(order[:cut]), slices.Clone(order[cut+1:])
			slices.Sort(a)
			slices.Sort(b)
			if b[0] < a[0] {
				a, b = b, a
			}
			checkParts(t, g, a, b)
			g.SetNode(order[cut], true)
		}
		checkParts(t, g, rising)
	}
}

// P9.4: components that lie across each other are ordered by their smallest nodes.
func TestComponentsOrder(t *testing.T) {
	g := newGraph(t, 8, []api.Link{{A: 7, B: 0, Cost: 1}, {A: 5, B: 2, Cost: 1}, {A: 6, B: 1, Cost: 1}, {A: 3, B: 6, Cost: 1}, {A: 2, B: 4, Cost: 1}})
	checkParts(t, g, []int{0, 7}, []int{1, 3, 6}, []int{2, 4, 5})
	g.SetNode(2, false)
	checkParts(t, g, []int{0, 7}, []int{1, 3, 6}, []int{4}, []int{5})
	g.SetNode(0, false)
	checkParts(t, g, []int{1, 3, 6}, []int{4}, []int{5}, []int{7})
	g.SetLink(2, false)
	checkParts(t, g, []int{1}, []int{3, 6}, []int{4}, []int{5}, []int{7})
}

// P9.4: of several links between two nodes one is enough.
func TestComponentsParallel(t *testing.T) {
	g := newGraph(t, 2, slices.Repeat([]api.Link{{A: 1, B: 0, Cost: 3}}, 128))
	for i := range 128 {
		checkParts(t, g, []int{0, 1})
		g.SetLink(i, false)
	}
	checkParts(t, g, []int{0}, []int{1})
	g.SetLink(127, true)
	checkParts(t, g, []int{0, 1})
}

// P9.4: nodes that there are not have no component, also if a part of their number is that of a node.
func TestComponentRange(t *testing.T) {
	for _, nodes := range []int{1, 2, 31, 32} {
		g := newGraph(t, nodes, chain(count(nodes)))
		for _, n := range around(nodes) {
			if n >= 0 && n < nodes {
				continue
			}
			if c, e, alive := g.Component(n), g.Neighbors(n), g.Alive(n); len(c) != 0 || len(e) != 0 || alive {
				t.Errorf("the node %d of %d: %v %v %v", n, nodes, c, e, alive)
			}
		}
	}
}
