package msg_test

import (
	"math/rand/v2"
	"strings"
	"testing"

	"leafmesh/api"
)

// The capabilities of the tests: EVPN, route refresh, the AS number 7, and graceful restart.
const (
	evpn    = "\x01\x04\x00\x19\x00\x46"
	refresh = "\x02\x00"
	seven   = "\x41\x04\x00\x00\x00\x07"
	restart = "\x40\x06\x81\x02\x00\x19\x46\x80"
)

// start is what an OPEN begins with, up to the size of its parameters: the AS number 23456, the hold time 90 and an identifier.
const start = "\x04\x5b\xa0\x00\x5a\x0a\xff\x00\x01"

// body returns the body of an OPEN with parameters.
func body(parameters ...string) string {
	return start + block(strings.Join(parameters, ""), -1, "")
}

// parameter returns a parameter with capabilities.
func parameter(list ...string) string { return block("", 2, strings.Join(list, "")) }

// capability returns a capability.
func capability(code int, value string) string { return block("", code, value) }

// checkOpen fails the test unless an OPEN is read as a number, a restart time, and whether the peer restarted.
func checkOpen(t *testing.T, body string, as uint32, restart int, restarted bool) {
	t.Helper()
	checkBody(t, 1, body, api.OK)
	want := api.Msg{Kind: 1, Open: api.Open{AS: as, Hold: 90, ID: 0x0aff0001, Restart: restart, Restarted: restarted}}
	if l := checkMsgs(t, message(1, body), 1, ""); len(l) == 1 && !equal(l[0], want) {
		t.Errorf("% x is read as %+v, want %+v", body, l[0], want)
	}
}

// P6.3: an OPEN has at least 10 bytes, and before anything else the version 4.
func TestOpenStart(t *testing.T) {
	good := body(parameter(evpn, seven))
	checkOpen(t, good, 7, 0, false)
	for n := range 10 {
		checkBody(t, 1, good[:n], api.ErrForm)
		checkBody(t, 1, strings.Repeat("\x03", n), api.ErrForm)
	}
	for version := range 256 {
		want := api.ErrVersion
		if version == 4 {
			want = api.OK
		}
		first := string([]byte{byte(version)})
		checkBody(t, 1, first+good[1:], want)
		if version != 4 {
			checkBody(t, 1, first+good[1:9], api.ErrForm)
			checkBody(t, 1, first+"\x5b\xa0\x00\x01\x0a\xff\x00\x01\x09", api.ErrVersion)
			checkBody(t, 1, first+good[1:]+"\x00", api.ErrVersion)
			checkBody(t, 1, first+body(capability(3, evpn+seven))[1:], api.ErrVersion)
		}
	}
}

// P6.3: the hold time is not 1 or 2; the short AS number is ignored, the identifier is any.
func TestOpenNumbers(t *testing.T) {
	rest := body(parameter(evpn, seven))[9:]
	for hold, want := range map[int]api.Errno{0: 0, 1: 3, 2: 3, 3: 0, 4: 0, 255: 0, 256: 0, 257: 0, 258: 0, 512: 0, 65535: 0} {
		b := "\x04\x5b\xa0" + string([]byte{byte(hold >> 8), byte(hold)}) + "\x81\x82\x83\x84" + rest
		checkBody(t, 1, b, want)
		if want == api.OK {
			if l := checkMsgs(t, message(1, b), 1, ""); len(l) == 1 && l[0].Open != (api.Open{AS: 7, Hold: hold, ID: 0x81828384}) {
				t.Errorf("% x is read as %+v", b, l[0])
			}
		}
	}
	for _, short := range []string{"\x00\x00", "\x00\x07", "\x00\x08", "\xff\xff"} {
		checkOpen(t, "\x04"+short+start[3:]+rest, 7, 0, false)
	}
}

// P6.3: behind the tenth byte, the size, there are as many bytes, which are parameters with the code 2, and those consist of capabilities, each by itself.
func TestOpenParameters(t *testing.T) {
	both := parameter(evpn, seven)
	for _, good := range []string{both, both + parameter(), parameter() + both, parameter(evpn) + parameter(seven), parameter(seven) + parameter(refresh) + parameter(evpn), both + both, parameter(seven, evpn)} {
		checkOpen(t, body(good), 7, 0, false)
		// Parameters of another kind, and bytes that are none, are wrong anywhere.
		for _, code := range []int{0, 1, 3, 255} {
			checkBody(t, 1, body(good, capability(code, "")), api.ErrForm)
			checkBody(t, 1, body(capability(code, evpn+seven), good), api.ErrForm)
		}
		for _, bytes := range []string{"\x00", "\x02", "\x02\x01", "\x02\x02\x02", "\x02\xff\x02\x00"} {
			checkBody(t, 1, body(good, bytes), api.ErrForm)
		}
		for size := range 256 {
			if size != len(good) {
				checkBody(t, 1, start+string([]byte{byte(size)})+good, api.ErrForm)
			}
		}
		// The parameters do not end where their size says that they do.
		for n := 1; n < len(good); n++ {
			cut := good[:n]
			_, _, f := modelSplit([]byte(message(1, body(cut))))
			checkBody(t, 1, body(cut), f.Err)
		}
	}
	checkBody(t, 1, body(), api.ErrForm)
	checkBody(t, 1, body(parameter()), api.ErrForm)
	// A capability does not go on in the next parameter, nor beyond its own.
	list := evpn + refresh + seven
	for n := range len(list) {
		want := api.ErrForm
		if n == 0 || n == len(evpn) || n == len(evpn+refresh) {
			want = api.OK
		}
		checkBody(t, 1, body(parameter(list[:n]), parameter(list[n:])), want)
	}
	for _, part := range []string{"\x02", "\x02\x01", "\x09\x02\x00", "\x09\xff"} {
		checkBody(t, 1, body(parameter(evpn, seven, part)), api.ErrForm)
		checkBody(t, 1, body(parameter(evpn, seven), parameter(part)), api.ErrForm)
		checkBody(t, 1, body(parameter(part), parameter(evpn, seven)), api.ErrForm)
	}
	// As many elements as 255 bytes can hold.
	checkOpen(t, body(parameter(strings.Repeat("\x09\x00", 120), evpn, seven)), 7, 0, false)
	checkOpen(t, body(both, strings.Repeat("\x02\x00", 120)), 7, 0, false)
	checkBody(t, 1, body(both, strings.Repeat("\x02\x00", 120), "\x02"), api.ErrForm)
}

// P6.3: there must be the capability of EVPN, exactly, and one of an AS number of 4 bytes, anywhere.
func TestOpenNeeds(t *testing.T) {
	other := []string{"", "\x00\x19\x00", "\x00\x19\x46", "\x00\x01\x00\x01", "\x00\x19\x01\x46", "\x01\x19\x00\x46", "\x00\x18\x00\x46", "\x00\x19\x00\x47", "\x00\x19\x00\x46\x00", "\x00\x19\x00\x46\x00\x19\x00\x46"}
	for _, value := range other {
		wrong := capability(1, value)
		checkBody(t, 1, body(parameter(wrong, seven)), api.ErrForm)
		checkOpen(t, body(parameter(wrong, seven, evpn)), 7, 0, false)
		checkOpen(t, body(parameter(seven, evpn, wrong)), 7, 0, false)
		checkOpen(t, body(parameter(wrong), parameter(evpn), parameter(seven)), 7, 0, false)
	}
	for _, code := range []int{0, 2, 65, 64, 128, 255} {
		checkBody(t, 1, body(parameter(capability(code, "\x00\x19\x00\x46"), capability(0x41, "\x00\x00"))), api.ErrForm)
	}
	for n := range 9 {
		if n == 4 {
			continue
		}
		wrong := capability(0x41, "\x01\x02\x03\x04\x05\x06\x07\x08"[:n])
		checkBody(t, 1, body(parameter(evpn, wrong)), api.ErrForm)
		checkOpen(t, body(parameter(evpn, wrong, seven)), 7, 0, false)
		checkOpen(t, body(parameter(evpn, seven, wrong)), 7, 0, false)
	}
	for _, code := range []int{0, 1, 2, 3, 0x40, 0x42, 255} {
		checkBody(t, 1, body(parameter(evpn, capability(code, "\x00\x00\x00\x07"))), api.ErrForm)
	}
	checkBody(t, 1, body(parameter(evpn)), api.ErrForm)
	checkBody(t, 1, body(parameter(seven)), api.ErrForm)
	// Of several AS numbers the first one counts, also if it is zero.
	for value, as := range map[string]uint32{"\x00\x00\x00\x00": 0, "\x01\x02\x03\x04": 0x01020304, "\xff\xff\xff\xff": 0xffffffff} {
		checkOpen(t, body(parameter(evpn, capability(0x41, value), seven)), as, 0, false)
		checkOpen(t, body(parameter(capability(0x41, value)), parameter(evpn, seven)), as, 0, false)
		checkOpen(t, body(parameter(seven, capability(0x41, value), evpn)), 7, 0, false)
	}
}

// P6.3: the first capability of graceful restart must have at least 2 bytes; it alone counts, and of it one bit and twelve others.
func TestOpenRestart(t *testing.T) {
	checkOpen(t, body(parameter(evpn, restart, seven)), 7, 0x102, true)
	checkOpen(t, body(parameter(restart), parameter(evpn, seven)), 7, 0x102, true)
	for _, value := range []string{"", "\x0f"} {
		short := capability(0x40, value)
		checkBody(t, 1, body(parameter(evpn, short, seven)), api.ErrForm)
		checkBody(t, 1, body(parameter(evpn, short, restart, seven)), api.ErrForm)
		checkBody(t, 1, body(parameter(evpn, seven), parameter(short)), api.ErrForm)
		checkOpen(t, body(parameter(evpn, restart, short, seven)), 7, 0x102, true)
	}
	for _, x := range []struct {
		value     string
		time      int
		restarted bool
	}{
		{"\x00\x00", 0, false}, {"\x80\x00", 0, true}, {"\x0f\xff", 4095, false}, {"\x8f\xff", 4095, true},
		{"\x10\x00", 0, false}, {"\x20\x00", 0, false}, {"\x40\x00", 0, false}, {"\x70\x01", 1, false}, {"\x7f\xff", 4095, false}, {"\xff\xff", 4095, true},
		{"\x01\x00", 256, false}, {"\x08\x00", 2048, false}, {"\x00\x80", 128, false}, {"\x00\x01\xff", 1, false}, {"\x81\x23\x00\x01\x01\x80\x00\x19\x46\x80", 0x123, true},
	} {
		first := capability(0x40, x.value)
		checkOpen(t, body(parameter(evpn, first, seven)), 7, x.time, x.restarted)
		checkOpen(t, body(parameter(evpn, first, restart, seven)), 7, x.time, x.restarted)
		checkOpen(t, body(parameter(first), parameter(restart, evpn, seven)), 7, x.time, x.restarted)
	}
}

// P6.3: other capabilities are ignored, wherever they are and whatever is in them.
func TestOpenIgnored(t *testing.T) {
	for code := range 256 {
		if code == 0x40 {
			continue
		}
		for _, value := range []string{"", "\xff", "\x02\x05", "\xff\xff\xff\xff\xff"} {
			extra := capability(code, value)
			checkOpen(t, body(parameter(extra, evpn, restart, seven)), 7, 0x102, true)
			checkOpen(t, body(parameter(evpn), parameter(extra), parameter(restart, extra, seven, extra)), 7, 0x102, true)
		}
	}
}

// P6.3: Split says what the model says of OPEN messages with any capabilities, in any parameters.
func TestOpenModel(t *testing.T) {
	r := rand.New(rand.NewPCG(6, 4))
	counts := map[api.Errno]int{}
	for range 20000 {
		var parameters []string
		for range 1 + r.IntN(3) {
			var list []string
			for range r.IntN(4) {
				list = append(list, pick(r, evpn, evpn, seven, seven, restart, refresh, anyCapability(r)))
			}
			parameters = append(parameters, parameter(list...))
		}
		b := []byte(body(parameters...))
		if r.IntN(4) == 0 {
			b[9+r.IntN(len(b)-9)] += byte(r.IntN(3))
		}
		counts[checkSplit(t, []byte(message(1, string(b)))).Err]++
	}
	for _, e := range []api.Errno{api.OK, api.ErrForm} {
		if counts[e] < 1000 {
			t.Errorf("only %d messages with the error %d", counts[e], e)
		}
	}
}

// anyCapability returns a capability that may be one of those that count.
func anyCapability(r *rand.Rand) string {
	value := make([]byte, pick(r, 0, 1, 2, 4, 4, 6, r.IntN(8)))
	for i := range value {
		value[i] = byte(r.Uint32())
	}
	return capability(pick(r, 0, 1, 2, 0x40, 0x40, 0x41, 0x41, r.IntN(256)), string(value))
}
