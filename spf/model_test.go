package spf_test

import (
	"math/big"
	"math/rand/v2"
	"slices"
	"testing"

	"leafmesh/api"
	"leafmesh/spf"
)

// none stands for the distance of nodes between which there is no path.
const none = -1

// randomInput returns a valid network with costs up to a limit.
func randomInput(r *rand.Rand, nodes, count, cost int) input {
	x := input{nodes: nodes}
	if nodes == 1 {
		return x
	}
	share, reach := r.IntN(4), nodes-1
	// Links between nodes with close numbers alone make many paths.
	if r.IntN(3) == 0 {
		reach = min(reach, 1+r.IntN(2))
	}
	for range count {
		a := r.IntN(nodes)
		b := (a + 1 + r.IntN(reach)) % nodes
		x.links = append(x.links, api.Link{A: a, B: b, Cost: 1 + r.IntN(cost)})
		x.up = append(x.up, r.IntN(5) >= share)
	}
	return x
}

// small returns a network that is small enough for all of its paths to be listed.
func small(r *rand.Rand) input { return randomInput(r, 1+r.IntN(6), r.IntN(12), 1+r.IntN(3)) }

// large returns a network of any size, often with many paths of equal lengths.
func large(r *rand.Rand) input {
	costs := []int{1, 2, 3, 10, 1000}
	return randomInput(r, 1+r.IntN(32), r.IntN(129), costs[r.IntN(len(costs))])
}

// other returns the other end of a link at a node, and whether the link is up and at that node.
func (x input) other(i, n int) (int, bool) {
	l := x.links[i]
	return l.A + l.B - n, x.up[i] && (l.A == n || l.B == n)
}

// length returns the sum of the costs of some links.
func (x input) length(path []int) int {
	sum := 0
	for _, i := range path {
		sum += x.links[i].Cost
	}
	return sum
}

// shortest lists the shortest paths between two nodes, by trying all the paths that visit no node twice.
func (x input) shortest(from, to int) [][]int {
	var all, least [][]int
	visited := make([]bool, x.nodes)
	var walk func(n int, path []int)
	walk = func(n int, path []int) {
		if n == to {
			all = append(all, slices.Clone(path))
			return
		}
		visited[n] = true
		for i := range x.links {
			if m, at := x.other(i, n); at && !visited[m] {
				walk(m, append(path, i))
			}
		}
		visited[n] = false
	}
	walk(from, nil)
	for _, path := range all {
		if len(least) > 0 && x.length(path) > x.length(least[0]) {
			continue
		}
		if len(least) > 0 && x.length(path) < x.length(least[0]) {
			least = nil
		}
		least = append(least, path)
	}
	return least
}

// ends returns the first links of some paths, or the last ones, ascending.
func ends(paths [][]int, last bool) []int {
	var out []int
	for _, path := range paths {
		if len(path) > 0 && last {
			out = append(out, path[len(path)-1])
		} else if len(path) > 0 {
			out = append(out, path[0])
		}
	}
	slices.Sort(out)
	return slices.Compact(out)
}

// chosen returns the chosen path, as the chapter defines it, from the parents of the nodes.
func (x input) chosen(parents []int, from, to int) []int {
	if to == from || parents[to] < 0 {
		return nil
	}
	before, _ := x.other(parents[to], to)
	return append(x.chosen(parents, from, before), parents[to])
}

// P10.1, P10.2, P10.3: in small networks all functions answer as the list of all paths says.
func TestAllPaths(t *testing.T) {
	r := rand.New(rand.NewPCG(10, 1))
	several, apart := 0, 0
	for range 2000 {
		x := small(r)
		for from := range x.nodes {
			dist, parents := make([]int, x.nodes), make([]int, x.nodes)
			for to := range x.nodes {
				least := x.shortest(from, to)
				dist[to], parents[to] = none, none
				if len(least) > 0 {
					dist[to] = x.length(least[0])
				}
				if last := ends(least, true); len(last) > 0 {
					parents[to] = last[0]
				}
				if got, want := x.next(from, to), ends(least, false); !slices.Equal(got, want) {
					t.Fatalf("%v: Next(%d, %d) = %v, want %v", x, from, to, got, want)
				}
				if got := x.paths(from, to); got != len(least) {
					t.Fatalf("%v: Paths(%d, %d) = %d, want %v", x, from, to, got, least)
				}
				if len(least) > 2 {
					several++
				}
				if len(least) == 0 {
					apart++
				}
			}
			checkParents(t, x, from, dist, parents)
		}
	}
	if several < 1000 || apart < 1000 {
		t.Errorf("only %d times several paths, %d times none", several, apart)
	}
}

// checkParents fails the test unless Dist and Parents are as wanted, and Path follows from them.
func checkParents(t *testing.T, x input, from int, dist, parents []int) {
	t.Helper()
	if got := x.dist(from); !slices.Equal(got, dist) {
		t.Fatalf("%v: Dist(%d) = %v, want %v", x, from, got, dist)
	}
	if got := x.parents(from); !slices.Equal(got, parents) {
		t.Fatalf("%v: Parents(%d) = %v, want %v", x, from, got, parents)
	}
	for to := range x.nodes {
		if got, want := x.path(from, to), x.chosen(parents, from, to); !slices.Equal(got, want) {
			t.Fatalf("%v: Path(%d, %d) = %v, want %v", x, from, to, got, want)
		}
	}
}

// matrix returns all distances: each node is tried as one on the way.
func (x input) matrix() [][]int {
	d := make([][]int, x.nodes)
	for a := range d {
		d[a] = slices.Repeat([]int{none}, x.nodes)
		d[a][a] = 0
	}
	better := func(a, b, length int) {
		if d[a][b] == none || length < d[a][b] {
			d[a][b] = length
		}
	}
	for i, l := range x.links {
		if x.up[i] {
			better(l.A, l.B, l.Cost)
			better(l.B, l.A, l.Cost)
		}
	}
	for way := range x.nodes {
		for a := range x.nodes {
			for b := range x.nodes {
				if d[a][way] != none && d[way][b] != none {
					better(a, b, d[a][way]+d[way][b])
				}
			}
		}
	}
	return d
}

// counts returns the numbers of shortest paths from a node, without a limit: the nodes are taken in the order of their distances.
func (x input) counts(dist []int, from int) []*big.Int {
	order, counts := []int{}, make([]*big.Int, x.nodes)
	for n := range x.nodes {
		order, counts[n] = append(order, n), new(big.Int)
	}
	slices.SortFunc(order, func(a, b int) int { return dist[a] - dist[b] })
	counts[from].SetInt64(1)
	for _, n := range order {
		for i, l := range x.links {
			if m, at := x.other(i, n); at && dist[m]+l.Cost == dist[n] {
				counts[n].Add(counts[n], counts[m])
			}
		}
	}
	return counts
}

// P10.1, P10.2, P10.3: in networks of any size all functions answer as follows from all distances.
func TestMatrix(t *testing.T) {
	r := rand.New(rand.NewPCG(10, 2))
	limit := big.NewInt(1 << 30)
	most := 0
	for range 150 {
		x := large(r)
		d := x.matrix()
		for from := range x.nodes {
			parents := slices.Repeat([]int{none}, x.nodes)
			counts := x.counts(d[from], from)
			for to := range x.nodes {
				var next []int
				for i, l := range x.links {
					if m, at := x.other(i, from); at && d[from][to] > 0 && l.Cost+d[m][to] == d[from][to] {
						next = append(next, i)
					}
					if m, at := x.other(i, to); at && parents[to] == none && d[from][to] > 0 && d[from][m]+l.Cost == d[from][to] {
						parents[to] = i
					}
				}
				if got := x.next(from, to); !slices.Equal(got, next) {
					t.Fatalf("%v: Next(%d, %d) = %v, want %v", x, from, to, got, next)
				}
				want := counts[to]
				if want.Cmp(limit) > 0 {
					want = limit
				}
				got := x.paths(from, to)
				if big.NewInt(int64(got)).Cmp(want) != 0 {
					t.Fatalf("%v: Paths(%d, %d) = %d, want %v", x, from, to, got, want)
				}
				most = max(most, got)
			}
			checkParents(t, x, from, d[from], parents)
		}
	}
	if most < 10000 {
		t.Errorf("there were only %d shortest paths", most)
	}
}

// R4, P2: the arguments stay as they are, results are not kept, and the same question gets the same answer.
func TestMemory(t *testing.T) {
	r := rand.New(rand.NewPCG(10, 3))
	for range 200 {
		x := large(r)
		links, up := slices.Clone(x.links), slices.Clone(x.up)
		from, to := r.IntN(x.nodes), r.IntN(x.nodes)
		for _, ask := range []func() []int{
			func() []int { return spf.Dist(x.nodes, x.links, x.up, from) },
			func() []int { return spf.Next(x.nodes, x.links, x.up, from, to) },
			func() []int { return spf.Parents(x.nodes, x.links, x.up, from) },
			func() []int { return spf.Path(x.nodes, x.links, x.up, from, to) },
			func() []int { return []int{spf.Paths(x.nodes, x.links, x.up, from, to)} },
		} {
			a, b := ask(), ask()
			want := slices.Clone(a)
			a = a[:cap(a)]
			for i := range a {
				a[i] = 99
			}
			if !slices.Equal(b, want) || !slices.Equal(ask(), want) {
				t.Fatalf("%v: %v, then %v", x, want, b)
			}
		}
		if !slices.Equal(x.links, links) || !slices.Equal(x.up, up) {
			t.Fatal("arguments were changed")
		}
	}
}
