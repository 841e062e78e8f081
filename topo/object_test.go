package topo_test

import (
	"math/rand/v2"
	"reflect"
	"slices"
	"testing"

	"leafmesh/api"
	"leafmesh/topo"
)

// checkInvalid fails the test unless g is an invalid object.
func checkInvalid(t *testing.T, g *topo.Graph) {
	t.Helper()
	for _, i := range around(3) {
		for _, up := range []bool{false, true} {
			if a, b := g.SetLink(i, up), g.SetNode(i, up); a != api.ErrNil || b != api.ErrNil {
				t.Errorf("SetLink and SetNode of %d: %d %d", i, a, b)
			}
		}
		if g.Up(i) || g.Alive(i) || len(g.Neighbors(i)) != 0 || len(g.Component(i)) != 0 || len(g.Between(i, 0)) != 0 || len(g.Between(0, i)) != 0 {
			t.Errorf("there is something at %d", i)
		}
	}
	if g.Nodes() != 0 || len(g.Links()) != 0 || len(g.Flags()) != 0 || len(g.Components()) != 0 {
		t.Errorf("%d nodes, %v, %v, %v", g.Nodes(), g.Links(), g.Flags(), g.Components())
	}
}

// R2: nil, a zero struct, and what Copy makes of them and New returns with an error, are invalid; nothing makes them valid.
func TestInvalid(t *testing.T) {
	failed, _ := topo.New(0, nil)
	for _, g := range []*topo.Graph{nil, {}, new(topo.Graph), failed} {
		checkInvalid(t, g)
		checkInvalid(t, g)
		c := g.Copy()
		if c != nil && !reflect.ValueOf(*c).IsZero() {
			t.Errorf("Copy = %v", c)
		}
		checkInvalid(t, c)
		checkInvalid(t, c.Copy())
	}
}

// P9.4: a copy is as its original, and what is done to one of them, and to copies of copies, leaves the others as they are.
func TestCopy(t *testing.T) {
	r := rand.New(rand.NewPCG(9, 6))
	for range 60 {
		g, m := changed(t, r)
		c, n := g.Copy(), *m
		n.alive, n.intact = slices.Clone(m.alive), slices.Clone(m.intact)
		if c == g || c == nil {
			t.Fatal("no new graph")
		}
		n.check(t, c)
		d, o := c.Copy(), n
		o.alive, o.intact = slices.Clone(n.alive), slices.Clone(n.intact)
		for range 10 {
			m.change(t, r, g)
			n.check(t, c)
			o.check(t, d)
			n.change(t, r, c)
			m.check(t, g)
			o.check(t, d)
			o.change(t, r, d)
			m.check(t, g)
			n.check(t, c)
		}
	}
}

// spoilAll overwrites a list, also behind its end.
func spoilAll[T any](list []T, value T) {
	list = list[:cap(list)]
	for i := range list {
		list[i] = value
	}
}

// R4: the graph keeps neither the links that were passed to it nor the results that it returned, and shares none with its copies.
func TestMemory(t *testing.T) {
	r := rand.New(rand.NewPCG(9, 7))
	wrong, edge := api.Link{A: 40, B: -3, Cost: -1}, api.Edge{Link: -1, Node: 77, Cost: -1}
	for range 60 {
		nodes := 2 + r.IntN(31)
		links := randomLinks(r, nodes, r.IntN(129))
		m := newModel(nodes, links)
		g := newGraph(t, nodes, links)
		if !slices.Equal(links, m.links) {
			t.Fatalf("New changed %v to %v", m.links, links)
		}
		spoilAll(links, wrong)
		m.check(t, g)
		c := g.Copy()
		for range 5 {
			m.change(t, r, g)
			i := r.IntN(nodes)
			spoilAll(g.Links(), wrong)
			spoilAll(c.Links(), wrong)
			spoilAll(g.Flags(), r.IntN(2) == 0)
			spoilAll(g.Neighbors(i), edge)
			spoilAll(g.Between(i, r.IntN(nodes)), -1)
			spoilAll(g.Component(i), -1)
			all := g.Components()
			for _, part := range all {
				spoilAll(part, -1)
			}
			spoilAll(all, nil)
			m.check(t, g)
		}
		newModel(nodes, m.links).check(t, c)
	}
}

// R4: the components of one result share no memory, also behind their ends.
func TestComponentsApart(t *testing.T) {
	g := newGraph(t, 32, chain(count(16)))
	all := g.Components()
	for i := range all {
		before := slices.Clone(all[i])
		for k := range all {
			if k != i {
				_ = append(all[k], 99)
				spoilAll(all[k], 99)
			}
		}
		if !slices.Equal(all[i], before) {
			t.Fatalf("component %d became %v", i, all[i])
		}
		all = g.Components()
	}
}
