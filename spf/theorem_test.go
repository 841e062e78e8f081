package spf_test

import (
	"math/rand/v2"
	"slices"
	"testing"

	"leafmesh/api"
)

// fits reports whether numbers have the properties of the distances from a node.
func (x input) fits(dist []int, from int) bool {
	if dist[from] != 0 {
		return false
	}
	reached := make([]bool, x.nodes)
	reached[from] = true
	for i, l := range x.links {
		if !x.up[i] {
			continue
		}
		a, b := dist[l.A], dist[l.B]
		if (a < 0) != (b < 0) || max(a, b)-min(a, b) > l.Cost {
			return false
		}
		if a >= 0 && a == b-l.Cost {
			reached[l.B] = true
		}
		if b >= 0 && b == a-l.Cost {
			reached[l.A] = true
		}
	}
	for n, d := range dist {
		if d >= 0 && !reached[n] {
			return false
		}
	}
	return true
}

// P10.4: distances have the properties of the theorem.
func TestProperties(t *testing.T) {
	r := rand.New(rand.NewPCG(10, 4))
	for range 400 {
		x := large(r)
		for from := range x.nodes {
			if dist := x.dist(from); !x.fits(dist, from) {
				t.Fatalf("%v: Dist(%d) = %v", x, from, dist)
			}
		}
	}
}

// P10.4: no other numbers have them: in tiny networks all numbers are tried.
func TestOnlyNumbers(t *testing.T) {
	r := rand.New(rand.NewPCG(10, 5))
	for range 120 {
		x := randomInput(r, 1+r.IntN(4), r.IntN(7), 3)
		from := r.IntN(x.nodes)
		found := 0
		dist := make([]int, x.nodes)
		var fill func(n int)
		fill = func(n int) {
			if n == x.nodes {
				if x.fits(dist, from) {
					found++
					same(t, "Dist", x.dist(from), dist...)
				}
				return
			}
			for dist[n] = none; dist[n] <= 10; dist[n]++ {
				fill(n + 1)
			}
		}
		fill(0)
		if found != 1 {
			t.Fatalf("%v: %d lists of numbers fit from %d", x, found, from)
		}
	}
}

// P10.5: the distance is the same in both directions, and never longer than over a third node.
func TestMetric(t *testing.T) {
	r := rand.New(rand.NewPCG(10, 6))
	for range 200 {
		x := large(r)
		var d [][]int
		for from := range x.nodes {
			d = append(d, x.dist(from))
		}
		for a := range x.nodes {
			for b := range x.nodes {
				if d[a][b] != d[b][a] || x.paths(a, b) != x.paths(b, a) {
					t.Fatalf("%v: from %d to %d %d, back %d", x, a, b, d[a][b], d[b][a])
				}
				for c := range x.nodes {
					if d[a][b] >= 0 && d[b][c] >= 0 && (d[a][c] < 0 || d[a][c] > d[a][b]+d[b][c]) {
						t.Fatalf("%v: %d to %d to %d: %d, over %d and %d", x, a, b, c, d[a][c], d[a][b], d[b][c])
					}
				}
			}
		}
	}
}

// P10.6: whichever link of Next is taken, the node is reached after the distance, and no node is visited twice.
func TestAnyNext(t *testing.T) {
	r := rand.New(rand.NewPCG(10, 7))
	for range 300 {
		x := large(r)
		from, to := r.IntN(x.nodes), r.IntN(x.nodes)
		whole := x.dist(from)[to]
		for range 20 {
			visited := make([]bool, x.nodes)
			length, n := 0, from
			for whole >= 0 && n != to {
				visited[n] = true
				next := x.next(n, to)
				if len(next) == 0 {
					t.Fatalf("%v: the way from %d to %d ends at %d", x, from, to, n)
				}
				i := next[r.IntN(len(next))]
				m, at := x.other(i, n)
				if !at || visited[m] {
					t.Fatalf("%v: from %d to %d, %d leads from %d to %d", x, from, to, i, n, m)
				}
				length += x.links[i].Cost
				n = m
			}
			if whole >= 0 && length != whole {
				t.Fatalf("%v: from %d to %d after %d, not %d", x, from, to, length, whole)
			}
		}
	}
}

// P10.7: the number of paths is the sum of those from the nodes to which the first links lead, up to the limit.
func TestSum(t *testing.T) {
	r := rand.New(rand.NewPCG(10, 8))
	for range 100 {
		x := large(r)
		for from := range x.nodes {
			for to := range x.nodes {
				sum := 0
				for _, i := range x.next(from, to) {
					m, _ := x.other(i, from)
					sum += x.paths(m, to)
				}
				if got := x.paths(from, to); from != to && got != min(sum, 1<<30) {
					t.Fatalf("%v: Paths(%d, %d) = %d, want %d", x, from, to, got, sum)
				}
			}
		}
	}
}

// P10.8: without a link no distance is smaller; if the link is on no shortest path between two nodes, nothing changes between them.
func TestWithout(t *testing.T) {
	r := rand.New(rand.NewPCG(10, 9))
	same, other := 0, 0
	for range 150 {
		x := large(r)
		if len(x.links) == 0 {
			continue
		}
		i := r.IntN(len(x.links))
		x.up[i] = true
		l, y := x.links[i], x.without(i)
		for from := range x.nodes {
			before, after := x.dist(from), y.dist(from)
			for to := range x.nodes {
				if after[to] >= 0 && (before[to] < 0 || after[to] < before[to]) {
					t.Fatalf("%v: without %d, from %d to %d: %d, then %d", x, i, from, to, before[to], after[to])
				}
				back := x.dist(to)
				over := func(a, b int) bool {
					return before[a] >= 0 && back[b] >= 0 && before[a]+l.Cost+back[b] == before[to]
				}
				if over(l.A, l.B) || over(l.B, l.A) {
					other++
					continue
				}
				same++
				if before[to] != after[to] || !slices.Equal(x.next(from, to), y.next(from, to)) {
					t.Fatalf("%v: without %d, Next(%d, %d) = %v after %v", x, i, from, to, y.next(from, to), x.next(from, to))
				}
			}
		}
	}
	if same < 1000 || other < 500 {
		t.Errorf("%d without the link, %d with it", same, other)
	}
}

// ladder returns a chain of nodes with some links between each two that follow one another.
func ladder(hops, width int) input {
	var links []api.Link
	for n := range hops {
		links = append(links, slices.Repeat([]api.Link{{A: n, B: n + 1, Cost: 7}}, width)...)
	}
	return allUp(hops+1, links...)
}

// P10.2: at most 2^30 paths are counted; more, also too many for 64 bits, are 2^30.
func TestPathsLimit(t *testing.T) {
	const limit = 1 << 30
	for hops := 1; hops <= 31; hops++ {
		for width := 1; hops*width <= 128; width++ {
			want := 1
			for range hops {
				want = min(want*width, limit)
			}
			x := ladder(hops, width)
			if got, back := x.paths(0, hops), x.paths(hops, 0); got != want || back != want {
				t.Errorf("%d hops of %d links: %d paths, %d back, want %d", hops, width, got, back, want)
			}
		}
	}
	x := ladder(31, 4)
	for n := range 4 {
		x.links = append(x.links, api.Link{A: n, B: n + 1, Cost: 7})
		x.up = append(x.up, true)
	}
	if got := x.paths(0, 31); got != limit {
		t.Errorf("the most paths that there can be: %d", got)
	}
}

// shortcuts returns a chain with two links from each node to the next one, but for the first one with one, and links from the first node to all later ones that are as short as the ways along the chain: there are 2^n - 1 paths to the node n.
func shortcuts(hops int) input {
	x := ladder(hops, 2).without(1)
	for n := 2; n <= hops; n++ {
		x.links = append(x.links, api.Link{A: 0, B: n, Cost: 7 * n})
		x.up = append(x.up, true)
	}
	return x
}

// P10.2: numbers close to 2^30 are exact, on both sides of it.
func TestPathsClose(t *testing.T) {
	const limit = 1 << 30
	x := shortcuts(31)
	for n := 1; n <= 31; n++ {
		want := min(1<<n-1, limit)
		if got, back := x.paths(0, n), x.paths(n, 0); got != want || back != want {
			t.Errorf("to %d: %d paths, %d back, want %d", n, got, back, want)
		}
	}
	for _, want := range []int{limit - 1, limit, limit, limit} {
		if got, back := x.paths(0, 30), x.paths(30, 0); got != want || back != want {
			t.Errorf("%d links: %d paths, %d back, want %d", len(x.links), got, back, want)
		}
		x.links = append(x.links, api.Link{A: 30, B: 0, Cost: 210})
		x.up = append(x.up, true)
	}
}
