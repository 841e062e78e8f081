package nlri_test

import (
	"math"
	"math/rand/v2"
	"slices"
	"testing"

	"leafmesh/api"
	"leafmesh/nlri"
)

// allKinds are the five kinds and some others.
var allKinds = append([]int{1, 2, 3, 4, 5}, strangeKinds...)

// full returns a route all of whose fields are set.
func full(kind int) api.NLRI {
	n := api.NLRI{Kind: kind}
	for _, f := range fields {
		f.set(&n)
	}
	n.ESI = api.ESI{1, 2, 3, 4, 5, 6, 7, 8, 9, 10}
	return n
}

// P4.3: the key is without labels, for KindMAC without ESI, for KindPrefix without ESI and Gateway; nothing else is lost.
func TestKey(t *testing.T) {
	for _, kind := range allKinds {
		n := full(kind)
		want := n
		want.Label, want.Label2 = 0, 0
		if kind == 2 || kind == 5 {
			want.ESI = api.ESI{}
		}
		if kind == 5 {
			want.Gateway = 0
		}
		if got := nlri.Key(n); got != want {
			t.Errorf("Key(%+v) = %+v, want %+v", n, got, want)
		}
		if got := nlri.Key(api.NLRI{Kind: kind}); got != (api.NLRI{Kind: kind}) {
			t.Errorf("Key of kind %d without fields = %+v", kind, got)
		}
	}
}

// steps are, for each part of a route that Compare looks at, in order, the kinds whose keys are without it, and changes
// that make a route greater and greater.
var steps = slices.Concat(
	[]step{{nil, []change{rd(0), rd(1), rd(1 << 63), rd(math.MaxUint64)}}},
	octetSteps(),
	[]step{
		{nil, []change{tag(0), tag(256), tag(1 << 31), tag(math.MaxUint32)}},
		{nil, []change{mac(0), mac(1 << 33), mac(1 << 50), mac(math.MaxUint64)}},
		{nil, []change{hasIP(false), hasIP(true)}},
		{nil, []change{ip(0), ip(256), ip(1 << 31), ip(math.MaxUint32)}},
		{nil, []change{prefixIP(0), prefixIP(256), prefixIP(1 << 31), prefixIP(math.MaxUint32)}},
		{nil, []change{prefixLen(math.MinInt), prefixLen(-1), prefixLen(0), prefixLen(32), prefixLen(math.MaxInt)}},
		{[]int{5}, []change{gateway(0), gateway(256), gateway(1 << 31), gateway(math.MaxUint32)}},
	},
)

// change changes a route; step is the changes of one part.
type (
	change func(*api.NLRI)
	step   struct {
		without []int
		changes []change
	}
)

func rd(x uint64) change       { return func(n *api.NLRI) { n.RD = x } }
func tag(x uint32) change      { return func(n *api.NLRI) { n.Tag = x } }
func mac(x api.MAC) change     { return func(n *api.NLRI) { n.MAC = x } }
func hasIP(x bool) change      { return func(n *api.NLRI) { n.HasIP = x } }
func ip(x api.IP) change       { return func(n *api.NLRI) { n.IP = x } }
func prefixIP(x api.IP) change { return func(n *api.NLRI) { n.Prefix.IP = x } }
func prefixLen(x int) change   { return func(n *api.NLRI) { n.Prefix.Len = x } }
func gateway(x api.IP) change  { return func(n *api.NLRI) { n.Gateway = x } }

// octetSteps returns the steps of the bytes of the identifier.
func octetSteps() []step {
	var out []step
	for at := range len(api.ESI{}) {
		s := step{without: []int{2, 5}}
		for _, b := range []byte{0, 1, 127, 128, 255} {
			s.changes = append(s.changes, func(n *api.NLRI) { n.ESI[at] = b })
		}
		out = append(out, s)
	}
	return out
}

// checkOrder fails the test unless a comes before b (-1), with it (0), or after it (1).
func checkOrder(t *testing.T, a, b api.NLRI, want int) {
	t.Helper()
	if got := nlri.Compare(a, b); got != want {
		t.Errorf("Compare(%+v, %+v) = %d, want %d", a, b, got, want)
	}
	if got := nlri.Compare(b, a); got != -want {
		t.Errorf("Compare(%+v, %+v) = %d, want %d", b, a, got, -want)
	}
}

// P4.3: what comes first decides, even if all that follows is the other way round; what is no part of the key decides nothing.
func TestCompareSteps(t *testing.T) {
	for _, kind := range allKinds {
		for i, s := range steps {
			for high := range s.changes {
				for low := range high {
					a, b := api.NLRI{Kind: kind, Label: 7, Label2: 9}, api.NLRI{Kind: kind}
					s.changes[low](&a)
					s.changes[high](&b)
					if slices.Contains(s.without, kind) {
						checkOrder(t, a, b, 0)
						continue
					}
					for _, later := range steps[i+1:] {
						later.changes[len(later.changes)-1](&a)
						later.changes[0](&b)
					}
					checkOrder(t, a, b, -1)
				}
			}
		}
	}
}

// P4.3: the kind is compared first, as a number, whether it is one of the five or not.
func TestCompareKinds(t *testing.T) {
	kinds := slices.Sorted(slices.Values(allKinds))
	for i, low := range kinds {
		checkOrder(t, full(low), full(low), 0)
		for _, high := range kinds[i+1:] {
			checkOrder(t, full(low), full(high), -1)
			checkOrder(t, full(low), api.NLRI{Kind: high}, -1)
			checkOrder(t, api.NLRI{Kind: low}, full(high), -1)
		}
	}
}

// P4.3: neither labels nor what KindMAC and KindPrefix leave out make a difference.
func TestCompareIgnores(t *testing.T) {
	for _, kind := range allKinds {
		a := full(kind)
		b := a
		b.Label, b.Label2 = math.MaxUint32, 0
		checkOrder(t, a, b, 0)
		b.ESI[0] = 200
		checkOrder(t, a, b, map[bool]int{false: -1}[kind == 2 || kind == 5])
		b.ESI = a.ESI
		b.Gateway = 0
		checkOrder(t, a, b, map[bool]int{false: 1}[kind == 5])
	}
}

// likeRoute returns a route that often agrees with others in the first fields, valid or not.
func likeRoute(r *rand.Rand) api.NLRI {
	return api.NLRI{
		Kind:    pick(r, 1, 2, 2, 3, 4, 5, 5, 6, -1),
		RD:      pick[uint64](r, 0, 0, 1),
		ESI:     api.ESI{0: pick[byte](r, 0, 0, 200), 9: pick[byte](r, 0, 1)},
		Tag:     pick[uint32](r, 0, 0, 1<<31),
		MAC:     pick[api.MAC](r, 0, 0, 1<<60),
		HasIP:   r.IntN(3) == 0,
		IP:      pick[api.IP](r, 0, 0, 1<<31),
		Prefix:  api.Prefix{IP: pick[api.IP](r, 0, 0, 1<<31), Len: pick(r, 0, 0, -1, 33)},
		Gateway: pick[api.IP](r, 0, 0, 1<<31),
		Label:   pick[uint32](r, 0, 0, 1<<31),
		Label2:  pick[uint32](r, 0, 0, 1<<31),
	}
}

// P4.6: Compare is a total order of keys, and Key is idempotent.
func TestTotalOrder(t *testing.T) {
	r := rand.New(rand.NewPCG(4, 7))
	equal := 0
	for range 200000 {
		l := []api.NLRI{likeRoute(r), likeRoute(r), likeRoute(r)}
		if r.IntN(4) == 0 {
			l[1] = l[0]
			l[1].Label, l[1].ESI, l[1].Gateway = 5, likeRoute(r).ESI, likeRoute(r).Gateway
		}
		for _, a := range l {
			key := nlri.Key(a)
			if nlri.Key(key) != key || nlri.Compare(a, key) != 0 {
				t.Fatalf("the key of %+v is %+v, and that of this %+v", a, key, nlri.Key(key))
			}
			for _, b := range l {
				same := nlri.Key(b) == key
				got := nlri.Compare(a, b)
				if (got == 0) != same || got < -1 || got > 1 || nlri.Compare(b, a) != -got {
					t.Fatalf("Compare(%+v, %+v) = %d and %d", a, b, got, nlri.Compare(b, a))
				}
				if same {
					equal++
				}
			}
		}
		slices.SortFunc(l, nlri.Compare)
		if nlri.Compare(l[0], l[1]) > 0 || nlri.Compare(l[1], l[2]) > 0 || nlri.Compare(l[0], l[2]) > 0 {
			t.Fatalf("%+v is not in order", l)
		}
		if (nlri.Compare(l[0], l[2]) == 0) != (nlri.Compare(l[0], l[1]) == 0 && nlri.Compare(l[1], l[2]) == 0) {
			t.Fatalf("%+v: equality is not transitive", l)
		}
	}
	if equal < 3*200000+1000 {
		t.Error("too few equal keys:", equal)
	}
}

// P4.4: a route distinguisher is 0 1, the address and the number.
func TestRD(t *testing.T) {
	if rd := nlri.RD(0x0aff0001, 5); rd != 0x00010aff00010005 {
		t.Errorf("RD = %x", rd)
	}
	for _, ip := range []api.IP{0, 1, 255, 256, 1 << 16, 1<<31 - 1, 1 << 31, 0x01020304, math.MaxUint32} {
		for _, n := range []uint16{0, 1, 255, 256, 0x0506, 1 << 15, math.MaxUint16} {
			want := uint64(1)<<48 + uint64(ip)*65536 + uint64(n)
			rd := nlri.RD(ip, n)
			if rd != want {
				t.Errorf("RD(%x, %x) = %x, want %x", ip, n, rd, want)
			}
			if gotIP, gotN, ok := nlri.RDOf(want); gotIP != ip || gotN != n || !ok {
				t.Errorf("RDOf(%x) = %x %x %v", want, gotIP, gotN, ok)
			}
		}
	}
}

// P4.4: what does not begin with 0 1 is of another type.
func TestRDOfOthers(t *testing.T) {
	for kind := range 1 << 16 {
		for _, rest := range []uint64{0, 5, 1<<48 - 1, 0x0aff00010005} {
			rd := uint64(kind)<<48 | rest
			ip, n, ok := nlri.RDOf(rd)
			if kind == 1 {
				if ip != api.IP(rest>>16) || n != uint16(rest) || !ok {
					t.Errorf("RDOf(%x) = %x %x %v", rd, ip, n, ok)
				}
			} else if ip != 0 || n != 0 || ok {
				t.Fatalf("RDOf(%x) = %x %x %v", rd, ip, n, ok)
			}
		}
	}
}
