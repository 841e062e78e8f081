package spf

import (
	"container/heap"
	"iter"
	"slices"

	"leafmesh/api"
)

// graph is what is up of a network: for each node the links at it, in the order of their numbers.
type graph [][]api.Edge

// newGraph returns the graph of a valid input.
func newGraph(nodes int, links []api.Link, up []bool) graph {
	g := make(graph, nodes)
	isUp := func(_ int, flag bool) bool { return flag }
	for i := range filter(slices.All(up), isUp) {
		l := links[i]
		g[l.A] = append(g[l.A], api.Edge{Link: i, Node: l.B, Cost: l.Cost})
		g[l.B] = append(g[l.B], api.Edge{Link: i, Node: l.A, Cost: l.Cost})
	}
	return g
}

// filter visits the pairs of a sequence that are to be kept.
func filter[K, V any](pairs iter.Seq2[K, V], keep func(K, V) bool) iter.Seq2[K, V] {
	return func(yield func(K, V) bool) {
		for k, v := range pairs {
			if keep(k, v) && !yield(k, v) {
				return
			}
		}
	}
}

// distances returns the distance of each node from a node, -1 if there is none.
func (g graph) distances(from int) []int {
	dist := slices.Repeat([]int{-1}, len(g))
	for q := (queue{{node: from}}); len(q) > 0; {
		nearest := heap.Pop(&q).(item)
		// A node that was queued several times comes first with its distance, and then with lengths that do not matter.
		if dist[nearest.node] >= 0 {
			continue
		}
		dist[nearest.node] = nearest.dist
		for _, e := range g[nearest.node] {
			if dist[e.Node] < 0 {
				heap.Push(&q, item{node: e.Node, dist: nearest.dist + e.Cost})
			}
		}
	}
	return dist
}

// nearer returns the links at a node with which the shortest paths begin that lead to the node from which the distances are counted. At that node itself, and at one without a distance, no sum can be the distance, since costs are positive.
func (g graph) nearer(dist []int, n int) []api.Edge {
	var edges []api.Edge
	for _, e := range g[n] {
		if dist[e.Node]+e.Cost == dist[n] {
			edges = append(edges, e)
		}
	}
	return edges
}

// parent returns the link at a node that is its parent, if there is one: links can be used in both directions, so that the shortest paths to the node end as those from it begin.
func (g graph) parent(dist []int, n int) (api.Edge, bool) {
	edges := g.nearer(dist, n)
	if len(edges) == 0 {
		return api.Edge{}, false
	}
	return edges[0], true
}
