package topo_test

import (
	"math/rand/v2"
	"slices"
	"testing"

	"leafmesh/api"
	"leafmesh/topo"
)

// changed returns a graph after random changes, and its model.
func changed(t *testing.T, r *rand.Rand) (*topo.Graph, *model) {
	t.Helper()
	g, m := randomGraph(t, r)
	for range r.IntN(60) {
		m.change(t, r, g)
	}
	return g, m
}

// P9.5: every node that is up is in exactly one component, its own; others are in none. Nodes that are joined by a link that can be used are in the same one.
func TestPartition(t *testing.T) {
	r := rand.New(rand.NewPCG(9, 3))
	for range 400 {
		g, m := changed(t, r)
		found := make([]int, g.Nodes())
		for _, part := range g.Components() {
			if len(part) == 0 || !slices.IsSorted(part) {
				t.Fatalf("%v is a component", part)
			}
			for _, n := range part {
				found[n]++
				if own := g.Component(n); !slices.Equal(own, part) {
					t.Fatalf("%d is in %v, but its component is %v", n, part, own)
				}
			}
		}
		for n, times := range found {
			if times > 1 || (times == 1) != g.Alive(n) {
				t.Fatalf("%d (up: %v) is in %d components", n, g.Alive(n), times)
			}
			for _, e := range g.Neighbors(n) {
				if !slices.Contains(g.Component(n), e.Node) {
					t.Fatalf("%d is not in the component of %d", e.Node, n)
				}
			}
		}
		for i, l := range m.links {
			if g.Up(i) && !slices.Equal(g.Component(l.A), g.Component(l.B)) {
				t.Fatalf("%v joins %v and %v", l, g.Component(l.A), g.Component(l.B))
			}
		}
	}
}

// without returns the lists of all that are not in others.
func without(all, others [][]int) [][]int {
	return slices.DeleteFunc(slices.Clone(all), func(a []int) bool {
		return slices.ContainsFunc(others, func(b []int) bool { return slices.Equal(a, b) })
	})
}

// P9.6: taking a link down splits at most one component, into at most two, of which each has an end of the link; bringing it up restores them.
func TestSplit(t *testing.T) {
	r := rand.New(rand.NewPCG(9, 4))
	splits := 0
	for range 400 {
		g, m := changed(t, r)
		for i, l := range m.links {
			g.SetLink(i, true)
			usable := g.Up(i)
			before := g.Components()
			g.SetLink(i, false)
			after := g.Components()
			old, parts := without(before, after), without(after, before)
			switch {
			case len(old) == 0 && len(parts) == 0:
			case usable && len(old) == 1 && len(parts) == 2:
				splits++
				both := slices.Concat(parts...)
				slices.Sort(both)
				if !slices.Equal(both, old[0]) || slices.Contains(parts[0], l.A) == slices.Contains(parts[0], l.B) {
					t.Fatalf("without %v, %v is split into %v", l, old, parts)
				}
			default:
				t.Fatalf("without %v (usable: %v), %v becomes %v", l, usable, before, after)
			}
			g.SetLink(i, true)
			if got := g.Components(); !sameLists(got, before) {
				t.Fatalf("%v becomes %v", before, got)
			}
			g.SetLink(i, m.intact[i])
		}
		m.check(t, g)
	}
	if splits < 1000 {
		t.Errorf("only %d splits", splits)
	}
}

// P9.7: only the last call for each link and for each node counts: after any calls, in any order of the last ones, a graph is like a new one in which just these were made.
func TestLastCall(t *testing.T) {
	r := rand.New(rand.NewPCG(9, 5))
	for range 300 {
		g, m := changed(t, r)
		calls := []func(g *topo.Graph) api.Errno{}
		for i, up := range m.intact {
			calls = append(calls, func(g *topo.Graph) api.Errno { return g.SetLink(i, up) })
		}
		for n, up := range m.alive {
			calls = append(calls, func(g *topo.Graph) api.Errno { return g.SetNode(n, up) })
		}
		for _, other := range []*topo.Graph{g, newGraph(t, len(m.alive), m.links)} {
			r.Shuffle(len(calls), func(i, j int) { calls[i], calls[j] = calls[j], calls[i] })
			for _, call := range calls {
				if err := call(other); err != api.OK {
					t.Fatal(err)
				}
			}
			m.check(t, other)
		}
	}
}

// P2: two graphs to which the same was done behave alike, and asking changes nothing.
func TestAlike(t *testing.T) {
	for seed := range uint64(30) {
		a, m := changed(t, rand.New(rand.NewPCG(9, seed)))
		b, _ := changed(t, rand.New(rand.NewPCG(9, seed)))
		for range 3 {
			m.check(t, a)
		}
		m.check(t, b)
	}
}
