package topo

import (
	"slices"
	"testing"

	"leafmesh/api"
)

// P9.4: the nodes of a component are visited once each, and no longer than they are wanted. No exported function stops before the last one, so that the test does.
func TestReachStops(t *testing.T) {
	g, err := New(5, []api.Link{{A: 0, B: 1, Cost: 1}, {A: 1, B: 2, Cost: 1}, {A: 2, B: 0, Cost: 1}, {A: 2, B: 3, Cost: 1}, {A: 1, B: 3, Cost: 1}})
	if err != api.OK {
		t.Fatal(err)
	}
	if all := slices.Sorted(g.reach(3)); !slices.Equal(all, []int{0, 1, 2, 3}) {
		t.Errorf("visited %v", all)
	}
	for most := 1; most <= 4; most++ {
		var visited []int
		for n := range g.reach(3) {
			visited = append(visited, n)
			if len(visited) == most {
				break
			}
		}
		if len(visited) != most || len(slices.Compact(slices.Sorted(slices.Values(visited)))) != most || visited[0] != 3 {
			t.Errorf("the first %d nodes: %v", most, visited)
		}
	}
}
