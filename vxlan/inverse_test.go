package vxlan_test

import (
	"bytes"
	"math/rand/v2"
	"testing"

	"leafmesh/api"
	"leafmesh/vxlan"
)

// P8.4: Read returns the packet that Bytes encoded.
func TestInverse(t *testing.T) {
	r := rand.New(rand.NewPCG(8, 7))
	for range 50000 {
		p := validPacket(r)
		b, err := vxlan.Bytes(p)
		back, fault := vxlan.Read(b)
		if err != api.OK || fault != (api.Fault{}) || back != p {
			t.Errorf("%+v is written as % x %d, and read as %+v %v", p, b, err, back, fault)
		}
	}
}

// P8.4: what Read accepts is exactly what Bytes writes.
func TestAccepted(t *testing.T) {
	r := rand.New(rand.NewPCG(8, 8))
	accepted := 0
	for range 100000 {
		b, _ := vxlan.Bytes(validPacket(r))
		for range 1 + r.IntN(2) {
			b = spoil(r, b)
		}
		p, fault := vxlan.Read(b)
		if fault.Err != api.OK {
			continue
		}
		accepted++
		if again, err := vxlan.Bytes(p); err != api.OK || !bytes.Equal(again, b) {
			t.Errorf("% x is read as %+v, and written as % x %d", b, p, again, err)
		}
	}
	if accepted < 10000 {
		t.Errorf("only %d packets were accepted", accepted)
	}
}
