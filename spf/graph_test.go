package spf

import (
	"container/heap"
	"slices"
	"testing"

	"leafmesh/api"
)

// P10.1: only the pairs that are to be kept are visited, in their order, and no longer than they are wanted. No exported function stops before the last one, so that the test does.
func TestFilterStops(t *testing.T) {
	odd := func(_ int, text string) bool { return len(text)%2 == 1 }
	texts := []string{"", "a", "bc", "def", "g", "hi"}
	for most := 1; most <= 4; most++ {
		var indices []int
		for i, text := range filter(slices.All(texts), odd) {
			if text != texts[i] {
				t.Errorf("%q at %d", text, i)
			}
			indices = append(indices, i)
			if len(indices) == most {
				break
			}
		}
		if want := []int{1, 3, 4}; !slices.Equal(indices, want[:min(most, 3)]) {
			t.Errorf("the first %d: %v", most, indices)
		}
	}
}

// P10.1: a queue gives out its items in the order of their distances.
func TestQueue(t *testing.T) {
	var q queue
	for i := range 100 {
		heap.Push(&q, item{node: i, dist: i * 37 % 101})
	}
	before := -1
	for len(q) > 0 {
		x := heap.Pop(&q).(item)
		if x.dist < before || x.dist != x.node*37%101 {
			t.Errorf("%v after %d", x, before)
		}
		before = x.dist
	}
}

// P10.1: a graph has the links that are up alone, at both of their ends.
func TestNewGraph(t *testing.T) {
	g := newGraph(3, []api.Link{{A: 0, B: 2, Cost: 4}, {A: 1, B: 0, Cost: 5}, {A: 2, B: 1, Cost: 6}}, []bool{true, false, true})
	want := graph{{{Link: 0, Node: 2, Cost: 4}}, {{Link: 2, Node: 2, Cost: 6}}, {{Link: 0, Node: 0, Cost: 4}, {Link: 2, Node: 1, Cost: 6}}}
	if !slices.EqualFunc(g, want, slices.Equal[[]api.Edge]) {
		t.Errorf("%v, want %v", g, want)
	}
}
