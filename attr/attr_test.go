package attr_test

import (
	"math"
	"math/rand/v2"
	"testing"

	"leafmesh/api"
	"leafmesh/attr"
)

// checkCheck fails the test unless Check returns what it must, which the model must say, too; Bytes must return the same error.
func checkCheck(t *testing.T, a api.Attrs, want api.Errno) {
	t.Helper()
	if got := modelCheck(a); got != want {
		t.Fatalf("the model says %d of %+v, want %d", got, a, want)
	}
	before := content{a: a}.clone()
	if got := attr.Check(a); got != want {
		t.Errorf("Check(%+v) = %d, want %d", a, got, want)
	}
	b, err := attr.Bytes(a, []api.NLRI{flood}, nil)
	if err != want || err != api.OK && len(b) != 0 {
		t.Errorf("Bytes(%+v, flood) = % x, %d, want the error %d", a, b, err, want)
	}
	if !before.equal(content{a: a}) {
		t.Errorf("Check or Bytes changed %+v to %+v", before.a, a)
	}
}

// P5.1: the origin is from 0 to 2.
func TestCheckOrigin(t *testing.T) {
	for _, n := range []int{0, 1, 2} {
		checkCheck(t, api.Attrs{Origin: n}, api.OK)
	}
	for _, n := range []int{math.MinInt, math.MinInt32, -256, -1, 3, 4, 255, 256, 258, 1 << 32, 1<<32 + 1, math.MaxInt} {
		checkCheck(t, api.Attrs{Origin: n}, api.ErrRange)
	}
}

// P5.1: lists have limits.
func TestCheckLists(t *testing.T) {
	for n := range 300 {
		want := func(most int) api.Errno {
			if n > most {
				return api.ErrLong
			}
			return api.OK
		}
		checkCheck(t, api.Attrs{Path: make([]uint32, n)}, want(32))
		checkCheck(t, api.Attrs{Clusters: make([]api.IP, n)}, want(16))
		checkCheck(t, api.Attrs{Comms: make([]api.Comm, n)}, want(64))
	}
	checkCheck(t, api.Attrs{Path: make([]uint32, 32), Clusters: make([]api.IP, 16), Comms: make([]api.Comm, 64)}, api.OK)
	checkCheck(t, api.Attrs{Path: []uint32{}, Clusters: []api.IP{}, Comms: []api.Comm{}}, api.OK)
}

// P5.1: a number that attributes do not have is zero; one that they have may be anything.
func TestCheckMissing(t *testing.T) {
	for _, n := range []uint32{0, 1, 100, 1 << 31, math.MaxUint32} {
		want := api.OK
		if n != 0 {
			want = api.ErrForm
		}
		checkCheck(t, api.Attrs{Med: n}, want)
		checkCheck(t, api.Attrs{Pref: n}, want)
		checkCheck(t, api.Attrs{Originator: api.IP(n)}, want)
		checkCheck(t, api.Attrs{HasMed: true, Med: n}, api.OK)
		checkCheck(t, api.Attrs{HasPref: true, Pref: n}, api.OK)
		checkCheck(t, api.Attrs{HasOriginator: true, Originator: api.IP(n)}, api.OK)
		// What is there for one of them does not count for the others.
		checkCheck(t, api.Attrs{HasPref: true, HasOriginator: true, Med: n}, want)
		checkCheck(t, api.Attrs{HasMed: true, HasOriginator: true, Pref: n}, want)
		checkCheck(t, api.Attrs{HasMed: true, HasPref: true, Originator: api.IP(n)}, want)
	}
}

// P5.1: the kinds of tunnels, and which fields each may have.
func TestCheckTunnel(t *testing.T) {
	for _, kind := range []int{math.MinInt, -6, -3, -1, 1, 2, 4, 5, 7, 255, 256, 256 + 3, 1<<32 + 6, math.MaxInt} {
		checkCheck(t, api.Attrs{Tunnel: api.Tunnel{Kind: kind}}, api.ErrType)
		checkCheck(t, api.Attrs{Tunnel: api.Tunnel{Kind: kind, Label: 1 << 24, Group: 1}}, api.ErrType)
	}
	for _, n := range []uint32{0, 1, 1 << 23, 1<<24 - 1} {
		checkCheck(t, api.Attrs{Tunnel: api.Tunnel{Kind: 3, Label: n, Root: api.IP(n), Group: api.IP(n)}}, api.OK)
		checkCheck(t, api.Attrs{Tunnel: api.Tunnel{Kind: 6, Label: n, Root: api.IP(n)}}, api.OK)
	}
	for _, n := range []uint32{1 << 24, 1<<24 + 1, 1 << 31, math.MaxUint32} {
		for _, kind := range []int{0, 3, 6} {
			checkCheck(t, api.Attrs{Tunnel: api.Tunnel{Kind: kind, Label: n}}, api.ErrRange)
			checkCheck(t, api.Attrs{Tunnel: api.Tunnel{Kind: kind, Label: n, Root: 1, Group: 1}}, api.ErrRange)
		}
		checkCheck(t, api.Attrs{Tunnel: api.Tunnel{Kind: 3, Root: api.IP(n), Group: api.IP(n)}}, api.OK)
		checkCheck(t, api.Attrs{Tunnel: api.Tunnel{Kind: 6, Root: api.IP(n)}}, api.OK)
	}
	for _, n := range []api.IP{1, 1 << 31, math.MaxUint32} {
		checkCheck(t, api.Attrs{Tunnel: api.Tunnel{Label: uint32(n) & 0xffffff, Root: n}}, api.ErrForm)
		checkCheck(t, api.Attrs{Tunnel: api.Tunnel{Root: n}}, api.ErrForm)
		checkCheck(t, api.Attrs{Tunnel: api.Tunnel{Group: n}}, api.ErrForm)
		checkCheck(t, api.Attrs{Tunnel: api.Tunnel{Kind: 6, Group: n}}, api.ErrForm)
	}
	checkCheck(t, api.Attrs{Tunnel: api.Tunnel{Label: 1}}, api.ErrForm)
}

// P5.1: of several errors, the one that the chapter names first.
func TestCheckOrder(t *testing.T) {
	faults := []struct {
		set  func(*api.Attrs)
		want api.Errno
	}{
		{func(a *api.Attrs) { a.Origin = 3 }, api.ErrRange},
		{func(a *api.Attrs) { a.Clusters = make([]api.IP, 17) }, api.ErrLong},
		{func(a *api.Attrs) { a.Pref = 1 }, api.ErrForm},
		{func(a *api.Attrs) { a.Tunnel.Kind = 1 }, api.ErrType},
		{func(a *api.Attrs) { a.Tunnel.Label = 1 << 24 }, api.ErrRange},
		{func(a *api.Attrs) { a.Tunnel.Group = 1 }, api.ErrForm},
	}
	for set := 1; set < 1<<len(faults); set++ {
		var a api.Attrs
		want := api.OK
		for i, f := range faults {
			if set>>i&1 == 1 {
				f.set(&a)
				if want == api.OK {
					want = f.want
				}
			}
		}
		checkCheck(t, a, want)
	}
}

// P5.1: attributes in which some fields may have any value.
func TestCheckRandom(t *testing.T) {
	r := rand.New(rand.NewPCG(5, 1))
	counts := map[api.Errno]int{}
	for range 20000 {
		a := mixedAttrs(r)
		want := modelCheck(a)
		counts[want]++
		checkCheck(t, a, want)
		if t.Failed() {
			return
		}
	}
	for _, e := range []api.Errno{api.OK, api.ErrRange, api.ErrLong, api.ErrForm, api.ErrType} {
		if counts[e] < 500 {
			t.Errorf("only %d attributes with the error %d", counts[e], e)
		}
	}
}

// P5.1: Zero is true without any field, and false with any single one, valid or not.
func TestZero(t *testing.T) {
	for _, a := range []api.Attrs{{}, {Path: []uint32{}, Clusters: []api.IP{}, Comms: []api.Comm{}}, {Comms: make([]api.Comm, 0, 5)}} {
		if !attr.Zero(a) {
			t.Errorf("Zero(%+v) = false", a)
		}
	}
	for _, f := range fields {
		var a api.Attrs
		f.set(&a)
		if attr.Zero(a) {
			t.Errorf("Zero is true with %s", f.name)
		}
	}
	for _, a := range []api.Attrs{
		{Origin: -1}, {Origin: 3}, {Origin: 1 << 32}, {Med: 1}, {Pref: 1}, {Originator: 1}, {Next: 1},
		{Path: make([]uint32, 33)}, {Clusters: make([]api.IP, 17)}, {Comms: make([]api.Comm, 65)}, {Comms: []api.Comm{{7: 1}}},
		{Tunnel: api.Tunnel{Kind: 1}}, {Tunnel: api.Tunnel{Label: 1}}, {Tunnel: api.Tunnel{Root: 1}}, {Tunnel: api.Tunnel{Group: 1}},
	} {
		if attr.Zero(a) {
			t.Errorf("Zero(%+v) = true", a)
		}
	}
}
