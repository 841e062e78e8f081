package attr_test

import (
	"bytes"
	"math/rand/v2"
	"slices"
	"strings"
	"testing"

	"leafmesh/api"
	"leafmesh/attr"
)

// checkRead fails the test unless Read of b returns what it must, and the same again, without changing b.
func checkRead(t *testing.T, b []byte, want content, fault api.Fault) {
	t.Helper()
	before := bytes.Clone(b)
	for range 2 {
		var got content
		var f api.Fault
		got.a, got.reach, got.unreach, f = attr.Read(b)
		if f != fault || !got.equal(want) {
			t.Errorf("Read(% .300x) =\n%+v %v, want\n%+v %v", b, got, f, want, fault)
		}
		// The result is new memory, all of it: writing into one part, or behind it, changes neither the others nor a later call.
		others := got.clone()
		_ = append(got.reach, host, host, host)
		_ = append(got.unreach, host, host, host)
		if !got.equal(others) {
			t.Errorf("Read(% .300x): the routes share memory", b)
		}
		clear(got.a.Path[:cap(got.a.Path)])
		clear(got.a.Clusters[:cap(got.a.Clusters)])
		clear(got.a.Comms[:cap(got.a.Comms)])
		clear(got.reach[:cap(got.reach)])
		if !slices.Equal(got.unreach, others.unreach) {
			t.Errorf("Read(% .300x): the lists of routes share memory", b)
		}
		clear(got.unreach[:cap(got.unreach)])
	}
	if !bytes.Equal(b, before) {
		t.Errorf("Read changed % .300x to % .300x", before, b)
	}
}

// checkModel does the same with what the model says.
func checkModel(t *testing.T, b []byte) api.Errno {
	t.Helper()
	want, fault := modelRead(b)
	checkRead(t, b, want, fault)
	return fault.Err
}

// checkFault fails the test unless Read of b has a fault at a position.
func checkFault(t *testing.T, b string, e api.Errno, at int) {
	t.Helper()
	checkRead(t, []byte(b), content{}, api.Fault{Err: e, At: at})
}

// The attributes that an announcement needs, besides its routes: an origin and a path.
const (
	origin = "\x40\x01\x01\x01"
	path   = "\x40\x02\x06\x02\x01\x00\x00\x00\x07"
)

// reachOf returns an attribute MP_REACH, unreachOf an MP_UNREACH.
func reachOf(routes ...api.NLRI) string {
	return string(attribute(0x80, 14, append([]byte("\x00\x19\x46\x04\x0a\xff\x00\x01\x00"), encoded(routes)...), false))
}

func unreachOf(routes ...api.NLRI) string {
	return string(attribute(0x80, 15, append([]byte("\x00\x19\x46"), encoded(routes)...), false))
}

// P5.3: the examples of the chapter.
func TestReadExamples(t *testing.T) {
	checkFault(t, "\x40\x01\x01", api.ErrShort, 0)
	checkFault(t, "\x40\x63\x00", api.ErrAttr, 0)
	checkFault(t, "\x80\x01\x01\x00", api.ErrAttr, 0)
	checkFault(t, "\x40\x01\x01\x03", api.ErrForm, 0)
	checkFault(t, "\x40\x01\x01\x00\x40\x01\x01\x00", api.ErrDouble, 4)
	checkRead(t, []byte("\x40\x01\x01\x00"), content{}, api.Fault{})
	checkRead(t, []byte("\x80\x0f\x03\x00\x19\x46"), content{}, api.Fault{})
	checkRead(t, nil, content{}, api.Fault{})
	checkRead(t, []byte{}, content{}, api.Fault{})
}

// P5.3: all attributes, and each byte of them at its place.
func TestReadAll(t *testing.T) {
	a := full()
	a.Next = 0x0aff0001
	want := content{a: a, reach: []api.NLRI{flood, host}, unreach: []api.NLRI{segment, subnet, auto}}
	checkRead(t, []byte(fullStart+reachOf(flood, host)+unreachOf(segment, subnet, auto)+fullEnd), want, api.Fault{})
	want.unreach = nil
	checkRead(t, []byte(fullStart+reachOf(flood, host)+fullEnd), want, api.Fault{})
	checkRead(t, []byte(fullStart+reachOf(flood, host)+unreachOf()+fullEnd), want, api.Fault{})
	// Without announced routes the attributes are nothing, but faults in them are some.
	want = content{unreach: []api.NLRI{segment}}
	checkRead(t, []byte(fullStart+unreachOf(segment)+fullEnd), want, api.Fault{})
	checkRead(t, []byte(fullStart+fullEnd), content{}, api.Fault{})
	checkFault(t, fullStart+"\xc0\x10\x00"+unreachOf(segment), api.ErrForm, len(fullStart))
}

// P5.3: b ends within the attribute: within its head, its length or its value.
func TestReadShort(t *testing.T) {
	before := origin + unreachOf(flood) + "\x80\x63\x00"
	for _, k := range table {
		for _, known := range []bool{false, true} {
			code, flags := k.code, k.flags
			if !known {
				// ErrShort comes before the error of a code that the table does not have.
				code, flags = code+100, 0
			}
			for _, b := range []string{
				string(attribute(flags, code, []byte{1, 2, 3, 4}, false)),
				string(attribute(flags, code, []byte{1, 2, 3, 4}, true)),
				string(attribute(flags, code, make([]byte, 300), false)),
			} {
				for n := 1; n < len(b); n++ {
					checkFault(t, b[:n], api.ErrShort, 0)
					checkFault(t, before+b[:n], api.ErrShort, len(before))
				}
			}
		}
	}
	checkFault(t, "\x40", api.ErrShort, 0)
	checkFault(t, "\x00", api.ErrShort, 0)
	checkFault(t, "\xff\xff\xff", api.ErrShort, 0)
	checkFault(t, "\xff\xff\xff\xff", api.ErrShort, 0)
	checkFault(t, "\x00\x00\x01", api.ErrShort, 0)
}

// P5.3: every code with every flags byte: what is not of the table must be optional, and is skipped then.
func TestReadFlags(t *testing.T) {
	values := map[byte]string{
		1: "\x02", 2: "\x02\x01\x01\x02\x03\x04", 4: "abcd", 5: "efgh", 9: "ijkl", 10: "mnop", 16: "qrstuvwx", 22: "\x00\x06\x01\x02\x03\x04\x05\x06\x07",
		14: reachOf(flood)[3:], 15: unreachOf(segment)[3:],
	}
	for code := range 256 {
		for flags := range 256 {
			one := attribute(byte(flags), byte(code), []byte(values[byte(code)]), flags&0x10 != 0)
			if code != 1 && code != 2 && code != 14 {
				one = append([]byte(origin+path+reachOf(host)), one...)
			}
			checkModel(t, one)
			_, fault := modelRead(one)
			base := map[int][]int{1: {0x40}, 2: {0x40}, 4: {0x80}, 5: {0x40}, 9: {0x80}, 10: {0x80}, 14: {0x80}, 15: {0x80}, 16: {0xc0, 0xe0}, 22: {0xc0, 0xe0}}[code]
			right := slices.Contains(base, flags&^0x10) || base == nil && flags >= 0x80
			if code == 14 && right {
				continue // The origin is missing.
			}
			if right != (fault.Err == api.OK) || !right && fault.Err != api.ErrAttr {
				t.Errorf("code %d with the flags %x: %v", code, flags, fault)
			}
		}
	}
}

// P5.3: wrong flags come before a second attribute and a wrong value, a second attribute before a wrong value.
func TestReadOrderOfErrors(t *testing.T) {
	for _, k := range table {
		value := modelValues(full(), []api.NLRI{flood}, []api.NLRI{host})[k.code]
		good := string(attribute(k.flags, k.code, value, false))
		bad := string(attribute(k.flags, k.code, []byte{9, 9, 9}, false))
		worse := string(attribute(k.flags^0x40, k.code, []byte{9, 9, 9}, false))
		checkFault(t, bad, api.ErrForm, 0)
		checkFault(t, worse, api.ErrAttr, 0)
		checkFault(t, good+good, api.ErrDouble, len(good))
		checkFault(t, good+bad, api.ErrDouble, len(good))
		checkFault(t, good+worse, api.ErrAttr, len(good))
		checkFault(t, good+worse[:len(worse)-1], api.ErrShort, len(good))
		checkFault(t, good+bad[:len(bad)-1], api.ErrShort, len(good))
		// Only the first fault counts.
		checkFault(t, bad+good, api.ErrForm, 0)
		checkFault(t, bad+worse, api.ErrForm, 0)
		checkFault(t, worse+bad, api.ErrAttr, 0)
		checkFault(t, bad+"\x40", api.ErrForm, 0)
		// Another length encoding, other attributes in between, and partial ones are the same attribute.
		long := string(attribute(k.flags, k.code, value, true))
		checkFault(t, good+"\x80\x63\x00"+long, api.ErrDouble, len(good)+3)
		checkFault(t, long+good, api.ErrDouble, len(long))
		if k.flags == 0xc0 {
			checkFault(t, good+string(attribute(0xe0, k.code, value, false)), api.ErrDouble, len(good))
		}
	}
}

// P5.3: attributes of codes that the table does not have are skipped, however often they come and whatever is in them.
func TestReadSkips(t *testing.T) {
	want := content{a: api.Attrs{Origin: 1, Path: []uint32{7}, Next: 0x0aff0001}, reach: []api.NLRI{flood}, unreach: []api.NLRI{host}}
	for code := range 256 {
		if slices.ContainsFunc(table, func(k struct{ code, flags byte }) bool { return int(k.code) == code }) {
			continue
		}
		for _, flags := range []byte{0x80, 0x90, 0xa0, 0xb0, 0xc0, 0xd0, 0xe0, 0xf0, 0x81, 0x8f, 0xff} {
			skipped := ""
			for _, value := range []string{"", origin, strings.Repeat("x", 255)} {
				skipped += string(attribute(flags, byte(code), []byte(value), flags&0x10 != 0))
			}
			checkRead(t, []byte(skipped), content{}, api.Fault{})
			checkRead(t, []byte(skipped+origin+skipped+path+skipped+reachOf(flood)+unreachOf(host)+skipped), want, api.Fault{})
			// None of them stands for an attribute that is needed.
			missing := skipped + origin + skipped + reachOf(flood)
			checkFault(t, missing, api.ErrAttr, len(missing))
		}
		for _, flags := range []byte{0x00, 0x10, 0x20, 0x40, 0x50, 0x7f} {
			b := string(attribute(flags, byte(code), []byte("abc"), flags&0x10 != 0))
			checkFault(t, b, api.ErrAttr, 0)
			checkFault(t, origin+b+path, api.ErrAttr, 4)
		}
	}
}

// P5.3: announced routes need an origin and a path; that they are missing is found at the end.
func TestReadNeeds(t *testing.T) {
	reach := reachOf(flood)
	for _, b := range []string{
		reach, reach + origin, origin + reach, path + reach, reach + path, path + reach + fullEnd, unreachOf(host) + reach + origin,
	} {
		checkFault(t, b, api.ErrAttr, len(b))
		checkFault(t, b+"\x80\x04\x00", api.ErrForm, len(b))
	}
	want := content{a: api.Attrs{Origin: 1, Path: []uint32{7}, Next: 0x0aff0001}, reach: []api.NLRI{flood}}
	for _, b := range []string{origin + path + reach, reach + path + origin, path + reach + origin} {
		checkRead(t, []byte(b), want, api.Fault{})
	}
	// Other attributes are not needed, and nothing is without announced routes.
	for _, b := range []string{"\x40\x02\x00", path, origin, fullEnd, "\x80\x04\x04\x00\x00\x00\x01"} {
		checkRead(t, []byte(b), content{}, api.Fault{})
		checkRead(t, []byte(b+unreachOf(host)), content{unreach: []api.NLRI{host}}, api.Fault{})
	}
}

// P5.3: every value with each number of bytes, and with both length encodings.
func TestReadSizes(t *testing.T) {
	for _, k := range table {
		whole := modelValues(full(), []api.NLRI{flood, host}, []api.NLRI{segment, subnet})[k.code]
		for size := range 700 {
			for _, fill := range []byte{0, 1, 6} {
				value := append(bytes.Clone(whole), bytes.Repeat([]byte{fill}, 700)...)[:size]
				for _, long := range []bool{false, true} {
					b := attribute(k.flags, k.code, value, long)
					checkModel(t, b)
					if k.code != 1 && k.code != 2 && k.code != 14 {
						checkModel(t, append([]byte(origin+path+reachOf(auto)), b...))
					}
				}
			}
		}
	}
}

// P5.3: every byte of every attribute with every value.
func TestReadBytes(t *testing.T) {
	whole := fullStart + reachOf(flood, host) + unreachOf(segment, subnet) + fullEnd
	for at := range len(whole) {
		for x := range 256 {
			b := []byte(whole)
			b[at] = byte(x)
			checkModel(t, b)
		}
		checkModel(t, []byte(whole[:at]))
		checkModel(t, []byte(whole[:at]+whole[at+1:]))
	}
}

// P5.3: the lengths of lists: none is empty, and none is longer than Check allows.
func TestReadLists(t *testing.T) {
	for n := range 256 {
		value := append([]byte{2, byte(n)}, bytes.Repeat([]byte{1, 2, 3, 4}, n)...)
		lists := []struct {
			b     []byte
			right bool
		}{
			{attribute(0x40, 2, value, false), n >= 1 && n <= 32},
			{attribute(0x80, 10, value[2:], false), n >= 1 && n <= 16},
			{attribute(0xc0, 16, bytes.Repeat([]byte("12345678"), n), false), n >= 1 && n <= 64},
		}
		for i, l := range lists {
			all := string(l.b) + origin + reachOf(flood)
			if i > 0 {
				all = string(l.b) + origin + path + reachOf(flood)
			}
			if err := checkModel(t, []byte(all)); (err == api.OK) != l.right || !l.right && err != api.ErrForm {
				t.Errorf("list %d with %d elements: %d", i, n, err)
			}
		}
	}
	for _, v := range []string{"\x02", "\x02\x00", "\x01\x01abcd", "\x03\x01abcd", "\x00\x00", "\x02\x01abc", "\x02\x01abcde", "\x02\x02abcd", "\x02\x01abcdefgh", "\x02\x01abcd\x02\x01abcd"} {
		checkFault(t, origin+string(attribute(0x40, 2, []byte(v), false))+reachOf(flood), api.ErrForm, 4)
	}
}

// P5.3: the forms of the other values.
func TestReadForms(t *testing.T) {
	route := string(encoded([]api.NLRI{flood}))
	for _, c := range []struct {
		code  byte
		value string
		right bool
	}{
		{1, "", false}, {1, "\x00", true}, {1, "\x02", true}, {1, "\x03", false}, {1, "\xff", false}, {1, "\x00\x00", false}, {1, "\x00\x01", false},
		{2, "", true},
		{4, "abcd", true}, {4, "abc", false}, {4, "abcde", false}, {4, "", false},
		{5, "\x00\x00\x00\x00", true}, {5, "abc", false}, {5, "abcde", false}, {5, "", false},
		{9, "abcd", true}, {9, "abc", false}, {9, "abcde", false}, {9, "abcdefgh", false}, {9, "", false},
		{14, "\x00\x19\x46\x04abcd\x00", false}, {14, "\x00\x19\x46\x04abcd\x00" + route, true}, {14, "\x00\x19\x46\x04abcd\x00" + route + route, true},
		{14, "\x00\x19\x46\x04abcd\x01" + route, false}, {14, "\x00\x19\x46\x10abcd\x00" + route, false}, {14, "\x00\x19\x45\x04abcd\x00" + route, false},
		{14, "\x00\x01\x46\x04abcd\x00" + route, false}, {14, "\x01\x19\x46\x04abcd\x00" + route, false}, {14, "\x00\x19\x46\x04abcd" + route, false},
		{14, "\x00\x19\x46\x04abcd\x00" + route[:18], false}, {14, "\x00\x19\x46\x04abcd\x00\x06\x00", false}, {14, "\x00\x19\x46\x04abcd\x00" + route + "\x03\x00", false},
		{15, "\x00\x19\x46", true}, {15, "\x00\x19\x46" + route, true}, {15, "\x00\x19", false}, {15, "", false}, {15, "\x00\x19\x47", false}, {15, "\x00\x1a\x46" + route, false},
		{15, "\x00\x19\x46\x00", false}, {15, "\x00\x19\x46" + route[:18], false}, {15, "\x00\x19\x46" + route + "\x06\x00", false},
		{22, "\x00\x06abcdefg", true}, {22, "\x00\x03abcdefgABCD", true}, {22, "\x00\x03abcdefg", false}, {22, "\x00\x06abcdefgABCD", false},
		{22, "\x01\x06abcdefg", false}, {22, "\x00\x00abcdefg", false}, {22, "\x00\x00\x00\x00\x00\x00\x00\x00\x00", false}, {22, "\x00\x04abcdefgABCD", false}, {22, "\x00\x07abcdefg", false},
		{22, "", false}, {22, "\x00", false}, {22, "\x00\x06", false}, {22, "\x00\x06abcdef", false}, {22, "\x00\x06abcdefgh", false}, {22, "\x00\x03abcdefgABC", false}, {22, "\x00\x03abcdefgABCDE", false},
	} {
		i := slices.IndexFunc(table, func(k struct{ code, flags byte }) bool { return k.code == c.code })
		for _, long := range []bool{false, true} {
			b := string(attribute(table[i].flags, c.code, []byte(c.value), long))
			before := ""
			for code, needed := range map[byte]string{1: origin, 2: path, 14: reachOf(host)} {
				if code != c.code {
					before += needed
				}
			}
			if !c.right {
				checkFault(t, before+b, api.ErrForm, len(before))
				checkFault(t, b, api.ErrForm, 0)
			} else if err := checkModel(t, []byte(before+b)); err != api.OK {
				t.Errorf("the value % x of the code %d: %d", c.value, c.code, err)
			}
		}
	}
}

// P5.3: as many routes as there is room for.
func TestReadManyRoutes(t *testing.T) {
	for _, size := range []int{65535 - 9, 65535 - 9 - 100, 30000} {
		routes := sized(size)
		b := origin + path + reachOf(routes...) + unreachOf(routes...)
		want := content{a: api.Attrs{Origin: 1, Path: []uint32{7}, Next: 0x0aff0001}, reach: routes, unreach: routes}
		checkRead(t, []byte(b), want, api.Fault{})
		// A fault in the last route is one of the attribute.
		checkFault(t, b[:len(b)-1]+"\x00\x80\x04\x04\x00", api.ErrShort, len(b))
	}
}

// spoil changes some of the bytes, or how many there are.
func spoil(r *rand.Rand, b []byte) []byte {
	for range r.IntN(4) {
		if len(b) == 0 {
			return []byte{byte(r.Uint32()), byte(r.IntN(24)), 0}
		}
		at := r.IntN(len(b))
		switch r.IntN(6) {
		case 0:
			b[at] = byte(r.Uint32())
		case 1:
			b[at] = pick[byte](r, 0, 1, 2, 3, 4, 5, 6, 9, 10, 13, 14, 15, 16, 22, 0x40, 0x80, 0xc0, 0xe0, 0x10)
		case 2:
			b = slices.Insert(b, at, byte(r.IntN(50)))
		case 3:
			b = slices.Delete(b, at, at+1)
		case 4:
			b = b[:at]
		case 5:
			b = slices.Concat(b, b[:at])
		}
	}
	return b
}

// P5.4: Read returns what Bytes encoded; P5.3: spoiled bytes are read as the model says.
func TestReadRandom(t *testing.T) {
	r := rand.New(rand.NewPCG(5, 3))
	counts := map[api.Errno]int{}
	for range 12000 {
		c := content{a: validAttrs(r), reach: anyRoutes(r), unreach: anyRoutes(r)}
		if len(c.reach) == 0 {
			c.a = api.Attrs{}
		}
		b, err := attr.Bytes(c.a, c.reach, c.unreach)
		if err != api.OK {
			t.Fatal(c, err)
		}
		checkRead(t, b, c, api.Fault{})
		b = spoil(r, b)
		counts[checkModel(t, b)]++
		checkWritten(t, b)
		if t.Failed() {
			return
		}
	}
	for _, e := range []api.Errno{api.OK, api.ErrShort, api.ErrAttr, api.ErrDouble, api.ErrForm} {
		if counts[e] < 100 {
			t.Errorf("only %d spoiled messages with the error %d", counts[e], e)
		}
	}
}

// checkWritten fails the test unless Bytes accepts what Read returns, and Read returns the same of the result (promise P3 of DOC.md).
func checkWritten(t *testing.T, b []byte) {
	t.Helper()
	a, reach, unreach, f := attr.Read(b)
	if f != (api.Fault{}) {
		return
	}
	again, err := attr.Bytes(a, reach, unreach)
	if err != api.OK {
		t.Errorf("Bytes of what Read(% x) has returned: %d", b, err)
	}
	checkRead(t, again, content{a, reach, unreach}, api.Fault{})
}

// P5.4: attributes and routes that are as long as they may be.
func TestRoundTripLong(t *testing.T) {
	a := full()
	a.Path, a.Clusters, a.Comms = slices.Repeat([]uint32{5}, 32), slices.Repeat([]api.IP{6}, 16), slices.Repeat([]api.Comm{{7}}, 64)
	for size := 240; size < 260; size++ {
		for _, c := range []content{
			{a: a, reach: sized(size)}, {unreach: sized(size)}, {a: a, reach: sized(size), unreach: sized(60000)}, {a: a, reach: sized(60000), unreach: sized(size)},
		} {
			b, err := attr.Bytes(c.a, c.reach, c.unreach)
			if err != api.OK {
				t.Fatal(err)
			}
			checkRead(t, b, c, api.Fault{})
		}
	}
}

// P5.5: neither the order of attributes matters, nor what is skipped among them, nor how lengths are encoded.
func TestReadAnyOrder(t *testing.T) {
	r := rand.New(rand.NewPCG(5, 5))
	for range 10000 {
		c := content{a: validAttrs(r), reach: anyRoutes(r), unreach: anyRoutes(r)}
		if len(c.reach) == 0 {
			c.a = api.Attrs{}
		}
		var pieces [][]byte
		values := modelValues(c.a, c.reach, c.unreach)
		for _, k := range table {
			if v, present := values[k.code]; present {
				flags := k.flags
				if flags == 0xc0 && r.IntN(2) == 0 {
					flags |= 0x20
				}
				pieces = append(pieces, attribute(flags, k.code, v, r.IntN(2) == 0))
			}
		}
		for range r.IntN(4) {
			pieces = append(pieces, attribute(pick[byte](r, 0x80, 0xc0, 0xe0), pick[byte](r, 0, 3, 8, 17, 200, 255), make([]byte, r.IntN(300)), r.IntN(2) == 0))
		}
		r.Shuffle(len(pieces), func(i, j int) { pieces[i], pieces[j] = pieces[j], pieces[i] })
		checkRead(t, slices.Concat(pieces...), c, api.Fault{})
		if t.Failed() {
			return
		}
	}
}

// P1 and P5.3 for bytes of any kind.
func TestReadAnything(t *testing.T) {
	r := rand.New(rand.NewPCG(5, 6))
	for range 50000 {
		b := make([]byte, r.IntN(60))
		for i := range b {
			b[i] = pick(r, 0, 0, 1, 2, 4, 0x40, 0x80, byte(r.Uint32()))
		}
		if len(b) > 2 {
			k := pick(r, table...)
			b[0], b[1], b[2] = k.flags, k.code, pick(r, 0, 1, 4, 8, 9, 13, byte(len(b)-3))
		}
		checkModel(t, b)
		checkWritten(t, b)
		if t.Failed() {
			return
		}
	}
}
