package attr_test

import (
	"bytes"
	"math/rand/v2"
	"slices"
	"testing"

	"leafmesh/api"
	"leafmesh/attr"
)

// checkBytes fails the test unless Bytes returns what it must, and the same again, without changing its arguments.
func checkBytes(t *testing.T, c content, want []byte, err api.Errno) {
	t.Helper()
	before := c.clone()
	for range 2 {
		got, e := attr.Bytes(c.a, c.reach, c.unreach)
		if e != err || !bytes.Equal(got, want) {
			t.Errorf("Bytes of %.300v\n%d bytes % .300x, error %d, want\n%d bytes % .300x, error %d", c, len(got), got, e, len(want), want, err)
		}
		// The result is new memory, so that this changes nothing.
		clear(got[:cap(got)])
	}
	if !before.equal(c) {
		t.Errorf("Bytes changed %.300v to %.300v", before, c)
	}
}

// checkModelBytes does the same with what the model says.
func checkModelBytes(t *testing.T, c content) api.Errno {
	t.Helper()
	want, err := modelBytes(c.a, c.reach, c.unreach)
	checkBytes(t, c, want, err)
	return err
}

// P5.2: the examples of the chapter.
func TestBytesExamples(t *testing.T) {
	none := []byte("\x80\x0f\x03\x00\x19\x46")
	checkBytes(t, content{}, none, api.OK)
	checkBytes(t, content{a: api.Attrs{Path: []uint32{}, Comms: []api.Comm{}}, reach: []api.NLRI{}, unreach: []api.NLRI{}}, none, api.OK)
	route := "\x03\x11\x00\x01\x0a\xff\x00\x01\x00\x05\x00\x00\x00\x00\x20\x0a\xff\x00\x01"
	one := "\x40\x01\x01\x00" + "\x40\x02\x00" + "\x80\x0e\x1c\x00\x19\x46\x04\x0a\xff\x00\x01\x00" + route
	checkBytes(t, content{a: api.Attrs{Next: 0x0aff0001}, reach: []api.NLRI{flood}}, []byte(one), api.OK)
	// Withdrawn routes stand behind announced ones.
	checkBytes(t, content{unreach: []api.NLRI{flood}}, []byte("\x80\x0f\x16\x00\x19\x46"+route), api.OK)
	checkBytes(t, content{a: api.Attrs{Next: 0x0aff0001}, reach: []api.NLRI{flood}, unreach: []api.NLRI{flood}}, []byte(one+"\x80\x0f\x16\x00\x19\x46"+route), api.OK)
}

// full are attributes with all fields, all bytes of which are different where that is possible.
func full() api.Attrs {
	return api.Attrs{
		Origin: 2, Path: []uint32{0x11121314, 0x15161718}, Next: 0x21222324,
		HasMed: true, Med: 0x31323334, HasPref: true, Pref: 0x41424344, HasOriginator: true, Originator: 0x51525354,
		Clusters: []api.IP{0x61626364, 0x65666768, 0x696a6b6c}, Comms: []api.Comm{{1, 2, 3, 4, 5, 6, 7, 8}, {9, 10, 11, 12, 13, 14, 15, 16}},
		Tunnel: api.Tunnel{Kind: 3, Label: 0x717273, Root: 0x81828384, Group: 0x91929394},
	}
}

// fullBytes are the parts of their encoding, before MP_REACH and behind MP_UNREACH.
const (
	fullStart = "\x40\x01\x01\x02" +
		"\x40\x02\x0a\x02\x02\x11\x12\x13\x14\x15\x16\x17\x18" +
		"\x80\x04\x04\x31\x32\x33\x34" +
		"\x40\x05\x04\x41\x42\x43\x44" +
		"\x80\x09\x04\x51\x52\x53\x54" +
		"\x80\x0a\x0c\x61\x62\x63\x64\x65\x66\x67\x68\x69\x6a\x6b\x6c"
	fullEnd = "\xc0\x10\x10\x01\x02\x03\x04\x05\x06\x07\x08\x09\x0a\x0b\x0c\x0d\x0e\x0f\x10" +
		"\xc0\x16\x0d\x00\x03\x71\x72\x73\x81\x82\x83\x84\x91\x92\x93\x94"
)

// P5.2: each byte of each attribute.
func TestBytesAll(t *testing.T) {
	reach := "\x80\x0e\x1c\x00\x19\x46\x04\x21\x22\x23\x24\x00" + string(encoded([]api.NLRI{flood}))
	unreach := "\x80\x0f\x1c\x00\x19\x46" + string(encoded([]api.NLRI{segment}))
	c := content{a: full(), reach: []api.NLRI{flood}}
	checkBytes(t, c, []byte(fullStart+reach+fullEnd), api.OK)
	c.unreach = []api.NLRI{segment}
	checkBytes(t, c, []byte(fullStart+reach+unreach+fullEnd), api.OK)
	// A tunnel to leaves has no group.
	c = content{a: api.Attrs{Tunnel: api.Tunnel{Kind: 6, Label: 0x717273, Root: 0x81828384}}, reach: []api.NLRI{flood}}
	checkBytes(t, c, []byte("\x40\x01\x01\x00\x40\x02\x00\x80\x0e\x1c\x00\x19\x46\x04\x00\x00\x00\x00\x00"+string(encoded(c.reach))+"\xc0\x16\x09\x00\x06\x71\x72\x73\x81\x82\x83\x84"), api.OK)
}

// P5.2: each field by itself; what is there with the value zero is written, too.
func TestBytesFields(t *testing.T) {
	for _, f := range fields {
		c := content{reach: []api.NLRI{flood, host}}
		f.set(&c.a)
		checkModelBytes(t, c)
		c.unreach = []api.NLRI{subnet, auto}
		checkModelBytes(t, c)
		// Without announced routes there is nothing to which the field could belong.
		c.reach = nil
		checkBytes(t, c, nil, api.ErrForm)
		c.unreach = nil
		checkBytes(t, c, nil, api.ErrForm)
	}
}

// P5.2: the errors, in their order.
func TestBytesErrors(t *testing.T) {
	wrong := api.Attrs{Origin: 3, Tunnel: api.Tunnel{Kind: 1}}
	form := api.Attrs{Next: 1}
	for i, x := range badRoutes {
		bad, good := []api.NLRI{flood, x.n, host}, []api.NLRI{flood}
		other := badRoutes[(i+2)%len(badRoutes)]
		checkBytes(t, content{reach: bad}, nil, x.err)
		checkBytes(t, content{reach: bad, unreach: good}, nil, x.err)
		checkBytes(t, content{unreach: bad}, nil, x.err)
		checkBytes(t, content{reach: good, unreach: bad}, nil, x.err)
		// The first route counts, and announced routes before withdrawn ones.
		checkBytes(t, content{reach: append(bad, other.n)}, nil, x.err)
		checkBytes(t, content{unreach: append(bad, other.n)}, nil, x.err)
		checkBytes(t, content{reach: bad, unreach: []api.NLRI{other.n}}, nil, x.err)
		// The attributes count before the routes.
		checkBytes(t, content{a: wrong, reach: bad}, nil, api.ErrRange)
		checkBytes(t, content{a: wrong, unreach: bad}, nil, api.ErrRange)
		checkBytes(t, content{a: form, unreach: bad}, nil, api.ErrForm)
		// A route that is wrong counts before the length.
		checkBytes(t, content{reach: append(slices.Repeat(good, 4000), x.n)}, nil, x.err)
		checkBytes(t, content{reach: slices.Repeat(good, 4000), unreach: append(slices.Repeat(good, 4000), x.n)}, nil, x.err)
	}
	checkBytes(t, content{a: wrong}, nil, api.ErrRange)
	checkBytes(t, content{a: api.Attrs{Path: make([]uint32, 33)}}, nil, api.ErrLong)
	checkBytes(t, content{a: api.Attrs{Med: 1}}, nil, api.ErrForm)
	checkBytes(t, content{a: api.Attrs{Tunnel: api.Tunnel{Kind: 1}}}, nil, api.ErrType)
}

// P5.2: the length takes two bytes if and only if a value has more than 255 bytes.
func TestBytesLengths(t *testing.T) {
	for size := 240; size < 270; size++ {
		length := string([]byte{byte(size)})
		flags := "\x80"
		if size > 255 {
			length, flags = string([]byte{1, byte(size - 256)}), "\x90"
		}
		reach, unreach := sized(size-9), sized(size-3)
		announced := "\x40\x01\x01\x00\x40\x02\x00" + flags + "\x0e" + length + "\x00\x19\x46\x04\x00\x00\x00\x00\x00" + string(encoded(reach))
		withdrawn := flags + "\x0f" + length + "\x00\x19\x46" + string(encoded(unreach))
		checkBytes(t, content{reach: reach}, []byte(announced), api.OK)
		checkBytes(t, content{unreach: unreach}, []byte(withdrawn), api.OK)
		checkBytes(t, content{reach: reach, unreach: unreach}, []byte(announced+withdrawn), api.OK)
	}
	for n := range 65 {
		c := content{a: api.Attrs{Comms: make([]api.Comm, n)}, reach: []api.NLRI{flood}}
		checkModelBytes(t, c)
		b, _ := attr.Bytes(c.a, c.reach, c.unreach)
		if long := bytes.Contains(b, []byte{0xd0, 16}); long != (n > 31) {
			t.Errorf("%d communities: a length of two bytes: %v", n, long)
		}
	}
}

// P5.2: there are at most 65,535 bytes in total.
func TestBytesLong(t *testing.T) {
	const most = 65535
	// These bytes are there besides the routes; the lengths take two bytes.
	const reach, unreach = 4 + 3 + 4 + 9, 4 + 3
	for over := -3; over <= 3; over++ {
		path := api.Attrs{Path: make([]uint32, 32)}
		for _, c := range []content{
			{reach: sized(most + over - reach)},
			{unreach: sized(most + over - unreach)},
			{reach: sized(30000), unreach: sized(most + over - reach - unreach - 30000)},
			{a: path, reach: sized(most + over - reach - 2 - 4*32)},
			{a: api.Attrs{Tunnel: api.Tunnel{Kind: 3}}, reach: sized(most + over - reach - 3 - 13)},
			{a: api.Attrs{Comms: make([]api.Comm, 64)}, reach: sized(most + over - reach - 4 - 8*64)},
		} {
			want := api.OK
			if over > 0 {
				want = api.ErrLong
			}
			if err := checkModelBytes(t, c); err != want {
				t.Errorf("%d bytes: %d, want %d", most+over, err, want)
			}
			b, _ := attr.Bytes(c.a, c.reach, c.unreach)
			if over <= 0 && len(b) != most+over {
				t.Errorf("%d bytes, want %d", len(b), most+over)
			}
		}
	}
	for _, n := range []int{65536 / 19, 65536/19 + 1, 4096, 4097, 10000, 2 * 65536 / 19, 2*65536/19 + 2, 20000} {
		many := slices.Repeat([]api.NLRI{flood}, n)
		checkBytes(t, content{reach: many}, nil, api.ErrLong)
		checkBytes(t, content{unreach: many}, nil, api.ErrLong)
		checkBytes(t, content{reach: many, unreach: []api.NLRI{flood}}, nil, api.ErrLong)
		checkBytes(t, content{reach: []api.NLRI{flood}, unreach: many}, nil, api.ErrLong)
	}
}

// P5.2: random attributes and routes, of which some are wrong.
func TestBytesRandom(t *testing.T) {
	r := rand.New(rand.NewPCG(5, 2))
	counts := map[api.Errno]int{}
	for range 20000 {
		c := content{a: mixedAttrs(r), reach: anyRoutes(r), unreach: anyRoutes(r)}
		if r.IntN(4) == 0 {
			c.a = api.Attrs{}
		}
		if r.IntN(6) == 0 {
			c.reach = append(c.reach, pick(r, badRoutes...).n)
		}
		if r.IntN(6) == 0 {
			c.unreach = append(c.unreach, pick(r, badRoutes...).n)
		}
		counts[checkModelBytes(t, c)]++
		if t.Failed() {
			return
		}
	}
	for _, e := range []api.Errno{api.OK, api.ErrRange, api.ErrLong, api.ErrForm, api.ErrType} {
		if counts[e] < 500 {
			t.Errorf("only %d calls with the error %d", counts[e], e)
		}
	}
}
