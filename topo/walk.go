package topo

import (
	"iter"

	"leafmesh/api"
)

// Neighbors returns the links at a node that can be used.
func (g *Graph) Neighbors(n int) []api.Edge {
	if !g.Alive(n) {
		return nil
	}
	var edges []api.Edge
	for i, l := range g.links {
		if !g.Up(i) {
			continue
		}
		switch n {
		case l.A:
			edges = append(edges, api.Edge{Link: i, Node: l.B, Cost: l.Cost})
		case l.B:
			edges = append(edges, api.Edge{Link: i, Node: l.A, Cost: l.Cost})
		}
	}
	return edges
}

// Between returns the links between two nodes that can be used.
func (g *Graph) Between(a, b int) []int {
	var links []int
	for _, e := range g.Neighbors(a) {
		if e.Node == b {
			links = append(links, e.Link)
		}
	}
	return links
}

// Component returns the nodes that can be reached from a node.
func (g *Graph) Component(n int) []int {
	var reached bitset
	for m := range g.reach(n) {
		reached.put(m, true)
	}
	return reached.list()
}

// Components returns all components.
func (g *Graph) Components() [][]int {
	var all [][]int
	var done bitset
	for n := range g.Nodes() {
		if !g.Alive(n) || done.has(n) {
			continue
		}
		c := g.Component(n)
		for _, m := range c {
			done.put(m, true)
		}
		all = append(all, c)
	}
	return all
}

// reach visits the nodes that can be reached from a node, the nearest ones first.
func (g *Graph) reach(from int) iter.Seq[int] {
	return func(yield func(int) bool) {
		if !g.Alive(from) {
			return
		}
		var found bitset
		found.put(from, true)
		for work := []int{from}; len(work) > 0; work = work[1:] {
			if !yield(work[0]) {
				return
			}
			for _, e := range g.Neighbors(work[0]) {
				if !found.has(e.Node) {
					found.put(e.Node, true)
					work = append(work, e.Node)
				}
			}
		}
	}
}
