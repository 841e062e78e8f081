package topo_test

import (
	"math/rand/v2"
	"slices"
	"testing"

	"leafmesh/api"
	"leafmesh/topo"
)

// model is what a graph must be: a flag for each node and for each link.
type model struct {
	links         []api.Link
	alive, intact []bool
}

// newModel returns the model of a new graph.
func newModel(nodes int, links []api.Link) *model {
	m := &model{links: slices.Clone(links), alive: make([]bool, nodes), intact: make([]bool, len(links))}
	for n := range m.alive {
		m.alive[n] = true
	}
	for i := range m.intact {
		m.intact[i] = true
	}
	return m
}

// modelCheck says what New must return.
func modelCheck(nodes int, links []api.Link) api.Errno {
	if nodes < 1 || nodes > 32 {
		return api.ErrRange
	}
	if len(links) > 128 {
		return api.ErrLong
	}
	for _, l := range links {
		if min(l.A, l.B) < 0 || max(l.A, l.B) >= nodes || l.Cost < 1 || l.Cost > 1000 {
			return api.ErrRange
		}
		if l.A == l.B {
			return api.ErrLoop
		}
	}
	return api.OK
}

// set sets an element if there is one, and returns the error.
func set(list []bool, i int, up bool) api.Errno {
	if i < 0 || i >= len(list) {
		return api.ErrRange
	}
	list[i] = up
	return api.OK
}

// up reports whether the link i, if there is one, can be used.
func (m *model) up(i int) bool {
	return i >= 0 && i < len(m.links) && m.intact[i] && m.alive[m.links[i].A] && m.alive[m.links[i].B]
}

func (m *model) isAlive(n int) bool { return n >= 0 && n < len(m.alive) && m.alive[n] }

func (m *model) flags() []bool {
	var out []bool
	for i := range m.links {
		out = append(out, m.up(i))
	}
	return out
}

func (m *model) neighbors(n int) []api.Edge {
	var out []api.Edge
	for i, l := range m.links {
		if m.up(i) && (l.A == n || l.B == n) {
			out = append(out, api.Edge{Link: i, Node: l.A + l.B - n, Cost: l.Cost})
		}
	}
	return out
}

// pairs returns the links that can be used, by their ends, in both orders.
func (m *model) pairs() map[[2]int][]int {
	out := map[[2]int][]int{}
	for i, l := range m.links {
		if m.up(i) {
			out[[2]int{l.A, l.B}] = append(out[[2]int{l.A, l.B}], i)
			out[[2]int{l.B, l.A}] = append(out[[2]int{l.B, l.A}], i)
		}
	}
	return out
}

// labels gives each node that is up the smallest node of its component, and -1 to the others: the smaller label spreads over the links until nothing changes.
func (m *model) labels() []int {
	out := make([]int, len(m.alive))
	for n := range out {
		out[n] = n
		if !m.alive[n] {
			out[n] = -1
		}
	}
	for changed := true; changed; {
		changed = false
		for i, l := range m.links {
			if m.up(i) && out[l.A] != out[l.B] {
				least := min(out[l.A], out[l.B])
				out[l.A], out[l.B], changed = least, least, true
			}
		}
	}
	return out
}

// components returns the components, and for each node that is up the component to which it belongs.
func (m *model) components() ([][]int, map[int][]int) {
	members, of := map[int][]int{}, map[int][]int{}
	labels := m.labels()
	for n, label := range labels {
		if label >= 0 {
			members[label] = append(members[label], n)
		}
	}
	var all [][]int
	for n, label := range labels {
		if label == n {
			all = append(all, members[n])
		}
		if label >= 0 {
			of[n] = members[label]
		}
	}
	return all, of
}

// sameLists reports whether two lists of lists are equal.
func sameLists(a, b [][]int) bool { return slices.EqualFunc(a, b, slices.Equal[[]int]) }

// check fails the test unless the graph answers all questions as the model does, also about nodes and links that there are not.
func (m *model) check(t *testing.T, g *topo.Graph) {
	t.Helper()
	if got, want := g.Nodes(), len(m.alive); got != want {
		t.Fatalf("Nodes = %d, want %d", got, want)
	}
	if got := g.Links(); !slices.Equal(got, m.links) {
		t.Fatalf("Links = %v, want %v", got, m.links)
	}
	if got, want := g.Flags(), m.flags(); !slices.Equal(got, want) {
		t.Fatalf("Flags = %v, want %v", got, want)
	}
	all, of := m.components()
	if got := g.Components(); !sameLists(got, all) {
		t.Fatalf("Components = %v, want %v", got, all)
	}
	for _, i := range around(len(m.links)) {
		if got, want := g.Up(i), m.up(i); got != want {
			t.Fatalf("Up(%d) = %v, want %v", i, got, want)
		}
	}
	pairs := m.pairs()
	for _, n := range around(len(m.alive)) {
		if got, want := g.Alive(n), m.isAlive(n); got != want {
			t.Fatalf("Alive(%d) = %v, want %v", n, got, want)
		}
		if got, want := g.Neighbors(n), m.neighbors(n); !slices.Equal(got, want) {
			t.Fatalf("Neighbors(%d) = %v, want %v", n, got, want)
		}
		if got, want := g.Component(n), of[n]; !slices.Equal(got, want) {
			t.Fatalf("Component(%d) = %v, want %v", n, got, want)
		}
		for k := -1; k <= len(m.alive); k++ {
			if got, want := g.Between(n, k), pairs[[2]int{n, k}]; !slices.Equal(got, want) {
				t.Fatalf("Between(%d, %d) = %v, want %v", n, k, got, want)
			}
		}
	}
}

// randomLinks returns links that are valid for a number of nodes, which is at least 2.
func randomLinks(r *rand.Rand, nodes, count int) []api.Link {
	var out []api.Link
	for range count {
		a := r.IntN(nodes)
		b := (a + 1 + r.IntN(nodes-1)) % nodes
		out = append(out, api.Link{A: a, B: b, Cost: 1 + r.IntN(1000)})
	}
	return out
}

// randomGraph returns a graph and its model. Its size is one of the limits now and then.
func randomGraph(t *testing.T, r *rand.Rand) (*topo.Graph, *model) {
	t.Helper()
	nodes := 2 + r.IntN(31)
	count := r.IntN(2 * nodes)
	switch r.IntN(8) {
	case 0:
		nodes, count = 32, 128
	case 1:
		nodes, count = 2, r.IntN(129)
	case 2:
		nodes, count = 32, r.IntN(30)
	}
	links := randomLinks(r, nodes, count)
	return newGraph(t, nodes, links), newModel(nodes, links)
}

// change makes the same random change to a graph and to its model, which may be one of a node or link that there is not.
func (m *model) change(t *testing.T, r *rand.Rand, g *topo.Graph) {
	t.Helper()
	up := r.IntN(2) == 0
	if r.IntN(3) == 0 {
		n := r.IntN(len(m.alive)+2) - 1
		if got, want := g.SetNode(n, up), set(m.alive, n, up); got != want {
			t.Fatalf("SetNode(%d, %v) = %d, want %d", n, up, got, want)
		}
		return
	}
	i := r.IntN(len(m.links)+2) - 1
	if got, want := g.SetLink(i, up), set(m.intact, i, up); got != want {
		t.Fatalf("SetLink(%d, %v) = %d, want %d", i, up, got, want)
	}
}

// P9.2, P9.3, P9.4: a graph answers as the model does, whatever was set.
func TestModel(t *testing.T) {
	r := rand.New(rand.NewPCG(9, 1))
	for range 100 {
		g, m := randomGraph(t, r)
		m.check(t, g)
		for range 50 {
			m.change(t, r, g)
			m.check(t, g)
		}
	}
}

// P9.1: New says what the model says of any links.
func TestNewModel(t *testing.T) {
	r := rand.New(rand.NewPCG(9, 2))
	counts := map[api.Errno]int{}
	for range 6000 {
		nodes := pick(r, 1, 2, 3, 31, 32, 1+r.IntN(32))
		var links []api.Link
		if nodes > 1 {
			links = randomLinks(r, nodes, pick(r, 0, 1, 5, 127, 128, 129, 200))
		}
		for range r.IntN(3) {
			if len(links) > 0 {
				spoil(r, nodes, &links[r.IntN(len(links))])
			}
		}
		if r.IntN(20) == 0 {
			nodes = pick(r, -1, 0, 33, r.Int(), -r.Int())
		}
		counts[checkNew(t, nodes, links)]++
	}
	for _, e := range []api.Errno{api.OK, api.ErrRange, api.ErrLong, api.ErrLoop} {
		if counts[e] < 200 {
			t.Errorf("only %d calls of New with the error %d", counts[e], e)
		}
	}
}

// spoil makes a link invalid, most of the time.
func spoil(r *rand.Rand, nodes int, l *api.Link) {
	end := pick(r, -1, 0, nodes-1, nodes, nodes+1, 32, r.Int(), -r.Int())
	switch r.IntN(4) {
	case 0:
		l.A = end
	case 1:
		l.B = end
	case 2:
		l.Cost = pick(r, -1, 0, 1, 1000, 1001, r.Int(), -r.Int())
	case 3:
		l.A = l.B
	}
}

// pick returns one of some values.
func pick[T any](r *rand.Rand, values ...T) T { return values[r.IntN(len(values))] }
