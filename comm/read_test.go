package comm_test

import (
	"bytes"
	"math/rand/v2"
	"slices"
	"testing"

	"leafmesh/api"
	"leafmesh/comm"
)

// content is what the getters say of a list.
type content struct {
	encap      int
	hasEncap   bool
	sticky     bool
	seq        uint32
	hasSeq     bool
	single     bool
	label      uint32
	hasLabel   bool
	target     api.MAC
	hasTarget  bool
	router     api.MAC
	hasRouter  bool
	alg, pref  int
	hasElected bool
}

// read calls all getters but Targets.
func read(l []api.Comm) content {
	var c content
	c.encap, c.hasEncap = comm.EncapOf(l)
	c.sticky, c.seq, c.hasSeq = comm.MobilityOf(l)
	c.single, c.label, c.hasLabel = comm.LabelOf(l)
	c.target, c.hasTarget = comm.ImportOf(l)
	c.router, c.hasRouter = comm.RouterOf(l)
	c.alg, c.pref, c.hasElected = comm.ElectionOf(l)
	return c
}

// model says, byte by byte, what the getters must return. It goes backwards, so that the first community of a kind
// replaces the later ones.
func model(l []api.Comm) content {
	var out content
	for _, c := range slices.Backward(l) {
		word := uint32(c[4])<<24 | uint32(c[5])<<16 | uint32(c[6])<<8 | uint32(c[7])
		mac := api.MAC(c[2])<<40 | api.MAC(c[3])<<32 | api.MAC(word)
		switch types[[2]byte{c[0], c[1]}] {
		case 2:
			out.encap, out.hasEncap = int(word%65536), true
		case 3:
			out.sticky, out.seq, out.hasSeq = c[2]%2 == 1, word, true
		case 4:
			out.single, out.label, out.hasLabel = c[2]%2 == 1, word%(1<<24), true
		case 5:
			out.target, out.hasTarget = mac, true
		case 6:
			out.router, out.hasRouter = mac, true
		case 7:
			out.alg, out.pref, out.hasElected = int(c[2]%32), int(word%65536), true
		}
	}
	return out
}

// modelTargets says which targets of the fabric a list has, by inserting each at its place.
func modelTargets(l []api.Comm) []uint32 {
	var out []uint32
	for _, c := range l {
		n := uint32(c[4])<<24 | uint32(c[5])<<16 | uint32(c[6])<<8 | uint32(c[7])
		if [4]byte(c[:4]) != [4]byte{0x00, 0x02, 0xfd, 0xe8} || slices.Contains(out, n) {
			continue
		}
		at := 0
		for at < len(out) && out[at] < n {
			at++
		}
		out = slices.Insert(out, at, n)
	}
	return out
}

// anyComm returns a community whose type is often one of the chapter, or beside one, and whose bytes are often alike.
func anyComm(r *rand.Rand) api.Comm {
	var c api.Comm
	for i := range c {
		c[i] = []byte{0, 1, 2, 6, 31, 32, 128, 255, byte(r.IntN(256))}[r.IntN(9)]
	}
	heads := [][4]byte{{0, 2, 0xfd, 0xe8}, {0, 2, 0xfd, 0xe8}, {0, 2, 0xfd, 0xe9}, {0, 2, 0xe8, 0xfd}, {0, 3, 0xfd, 0xe8}}
	if n := r.IntN(16); n < len(heads) {
		copy(c[:], heads[n][:])
		copy(c[4:7], []byte{0, 0, byte(r.IntN(2))})
	} else if n < 14 {
		copy(c[:2], [][]byte{{3, 12}, {6, 0}, {6, 1}, {6, 2}, {6, 3}, {6, 6}, {6, 4}, {3, 2}}[r.IntN(8)])
	}
	return c
}

// anyList returns a list in which communities may come twice.
func anyList(r *rand.Rand) []api.Comm {
	l := make([]api.Comm, r.IntN(12))
	for i := range l {
		l[i] = anyComm(r)
		if i > 0 && r.IntN(4) == 0 {
			l[i] = l[r.IntN(i)]
		}
	}
	return l
}

// P3.3: the getters read the first community of their kind and ignore the others; without one they return zero.
func TestGetters(t *testing.T) {
	r := rand.New(rand.NewPCG(3, 1))
	for range 20000 {
		l := anyList(r)
		before := slices.Clone(l)
		if got, want := read(l), model(l); got != want {
			t.Fatalf("the getters of % x = %+v, want %+v", l, got, want)
		}
		if got, want := comm.Targets(l), modelTargets(l); !slices.Equal(got, want) {
			t.Fatalf("Targets(% x) = %v, want %v", l, got, want)
		}
		if !slices.Equal(l, before) {
			t.Fatalf("the getters changed % x to % x", before, l)
		}
	}
}

// P3.3: without any community, and with communities of no kind, there is nothing.
func TestGettersNothing(t *testing.T) {
	for _, l := range [][]api.Comm{nil, {}, {{}}, {{6, 4, 1, 2, 3, 4, 5, 6}, {0, 3, 0xfd, 0xe8, 0, 0, 0, 1}, {2, 0, 0xfd, 0xe8, 0, 0, 0, 1}}} {
		if got := read(l); got != (content{}) {
			t.Errorf("the getters of % x = %+v, want zero", l, got)
		}
		if got := comm.Targets(l); len(got) != 0 {
			t.Errorf("Targets(% x) = %v, want none", l, got)
		}
	}
}

// P3.3: the examples of the chapter.
func TestGettersExamples(t *testing.T) {
	l := []api.Comm{comm.Target(65000, 9), comm.Target(1, 5), comm.Target(65000, 7), comm.Target(65000, 9)}
	if got := comm.Targets(l); !slices.Equal(got, []uint32{7, 9}) {
		t.Errorf("Targets = %v, want 7 9", got)
	}
	l = []api.Comm{comm.Mobility(true, 3), comm.Mobility(false, 9)}
	if sticky, seq, found := comm.MobilityOf(l); !sticky || seq != 3 || !found {
		t.Errorf("MobilityOf = %v %v %v, want true 3 true", sticky, seq, found)
	}
	if single, label, found := comm.LabelOf(l); single || label != 0 || found {
		t.Errorf("LabelOf = %v %v %v, want zero values", single, label, found)
	}
}

// P3.3: targets are in ascending order as numbers without signs, also at both ends.
func TestTargetsOrder(t *testing.T) {
	l := []api.Comm{
		comm.Target(65000, 0xffffffff), comm.Target(65000, 0x80000000), comm.Target(65000, 0x7fffffff),
		comm.Target(65000, 256), comm.Target(65000, 1), comm.Target(65000, 0), comm.Target(65000, 0xffffffff), comm.Target(65000, 0),
		comm.Target(64999, 2), comm.Target(65001, 3), comm.Target(0, 4), comm.Target(65535, 6),
	}
	want := []uint32{0, 1, 256, 0x7fffffff, 0x80000000, 0xffffffff}
	if got := comm.Targets(l); !slices.Equal(got, want) {
		t.Errorf("Targets = %v, want %v", got, want)
	}
}

// P3.3: only the lowest bit of a flag and the lowest five bits of an algorithm count, and zero bytes are ignored.
func TestGettersIgnore(t *testing.T) {
	for b := range 256 {
		x := byte(b)
		if got, found := comm.EncapOf([]api.Comm{{3, 12, x, x, x, x, 1, 2}}); got != 258 || !found {
			t.Errorf("EncapOf with the bytes %d = %d %v", b, got, found)
		}
		sticky, seq, found := comm.MobilityOf([]api.Comm{{6, 0, x, x, 1, 2, 3, 4}})
		if sticky != (b%2 == 1) || seq != 0x01020304 || !found {
			t.Errorf("MobilityOf with the bytes %d = %v %x %v", b, sticky, seq, found)
		}
		single, label, found := comm.LabelOf([]api.Comm{{6, 1, x, x, x, 1, 2, 3}})
		if single != (b%2 == 1) || label != 0x010203 || !found {
			t.Errorf("LabelOf with the bytes %d = %v %x %v", b, single, label, found)
		}
		alg, pref, found := comm.ElectionOf([]api.Comm{{6, 6, x, x, x, x, 1, 2}})
		if alg != b%32 || pref != 258 || !found {
			t.Errorf("ElectionOf with the bytes %d = %d %d %v", b, alg, pref, found)
		}
	}
}

// P3.4: the result is in ascending order, has every community of the list once and no other, and is new memory.
func TestSort(t *testing.T) {
	r := rand.New(rand.NewPCG(3, 4))
	for range 5000 {
		l := anyList(r)
		before := slices.Clone(l)
		got := comm.Sort(l)
		for i := 1; i < len(got); i++ {
			if bytes.Compare(got[i-1][:], got[i][:]) >= 0 {
				t.Fatalf("Sort(% x) = % x is not ascending", l, got)
			}
		}
		for _, c := range l {
			if !slices.Contains(got, c) {
				t.Fatalf("Sort(% x) = % x has lost % x", l, got, c)
			}
		}
		for i := range got {
			if !slices.Contains(l, got[i]) {
				t.Fatalf("Sort(% x) has made % x", l, got[i])
			}
			got[i] = api.Comm{9, 9, 9, 9, 9, 9, 9, 9}
		}
		if !slices.Equal(l, before) {
			t.Fatalf("Sort changed % x to % x, or shares its memory", before, l)
		}
	}
}

// P3.4: each byte counts, the first one most, and bytes have no sign.
func TestSortBytes(t *testing.T) {
	var want []api.Comm
	for at := 7; at >= 0; at-- {
		for _, b := range []byte{1, 127, 128, 255} {
			var c api.Comm
			c[at] = b
			want = append(want, c)
		}
	}
	l := slices.Clone(want)
	slices.Reverse(l)
	if got := comm.Sort(slices.Concat(l, l)); !slices.Equal(got, want) {
		t.Errorf("Sort = % x, want % x", got, want)
	}
	for _, l := range [][]api.Comm{nil, {}} {
		if got := comm.Sort(l); len(got) != 0 {
			t.Errorf("Sort(% x) = % x, want nothing", l, got)
		}
	}
}

// mustBuild fails the test if there is an error.
func mustBuild(t *testing.T) func(api.Comm, api.Errno) api.Comm {
	return func(c api.Comm, err api.Errno) api.Comm {
		t.Helper()
		if err != api.OK {
			t.Fatalf("error %v", err)
		}
		return c
	}
}

// P3.5: the getters return what the constructors were given, in a list with all kinds in any order.
func TestRoundTrip(t *testing.T) {
	r := rand.New(rand.NewPCG(3, 5))
	must := mustBuild(t)
	for range 5000 {
		want := content{
			encap: r.IntN(65536), hasEncap: true,
			sticky: r.IntN(2) == 1, seq: r.Uint32(), hasSeq: true,
			single: r.IntN(2) == 1, label: r.Uint32N(api.MaxVNI + 1), hasLabel: true,
			target: api.MAC(r.Uint64N(api.MaxMAC + 1)), hasTarget: true,
			router: api.MAC(r.Uint64N(api.MaxMAC + 1)), hasRouter: true,
			alg: r.IntN(32), pref: r.IntN(65536), hasElected: true,
		}
		n := r.Uint32()
		l := []api.Comm{
			comm.Target(api.FabricAS, n), must(comm.Encap(want.encap)), comm.Mobility(want.sticky, want.seq),
			must(comm.Label(want.single, want.label)), must(comm.Import(want.target)), must(comm.Router(want.router)),
			must(comm.Election(want.alg, want.pref)),
		}
		for i, c := range l {
			if got := comm.Kind(c); got != i+1 {
				t.Fatalf("Kind(% x) = %d, want %d", c, got, i+1)
			}
		}
		r.Shuffle(len(l), func(i, j int) { l[i], l[j] = l[j], l[i] })
		if got := read(l); got != want {
			t.Fatalf("the getters return %+v, want %+v", got, want)
		}
		if got := comm.Targets(l); !slices.Equal(got, []uint32{n}) {
			t.Fatalf("Targets = %v, want %d", got, n)
		}
	}
}

// P3.6: sorting again changes nothing, and neither the order of the list nor repeated communities matter.
func TestSortSet(t *testing.T) {
	r := rand.New(rand.NewPCG(3, 6))
	for range 5000 {
		l := anyList(r)
		want := comm.Sort(l)
		if got := comm.Sort(want); !slices.Equal(got, want) {
			t.Fatalf("Sort(% x) = % x", want, got)
		}
		again := slices.Clone(l)
		for range r.IntN(4) {
			if len(l) > 0 {
				again = append(again, l[r.IntN(len(l))])
			}
		}
		r.Shuffle(len(again), func(i, j int) { again[i], again[j] = again[j], again[i] })
		if got := comm.Sort(again); !slices.Equal(got, want) {
			t.Fatalf("Sort(% x) = % x, but Sort(% x) = % x", again, got, l, want)
		}
	}
}
