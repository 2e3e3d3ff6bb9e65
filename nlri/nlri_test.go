package nlri

import (
	"bytes"
	"math/rand"
	"slices"
	"testing"

	"signpost/addr"
	"signpost/api"
)

// P8.1
func TestEncode(t *testing.T) {
	b, no := Encode([]api.Prefix{addr.Of(0x0a000000, 8), {}, addr.Of(0x0a0b8000, 17), addr.Of(0x01020304, 32), addr.Of(0x80000000, 1)})
	if want := []byte{8, 10, 0, 17, 10, 11, 128, 32, 1, 2, 3, 4, 1, 128}; no != api.OK || !bytes.Equal(b, want) {
		t.Errorf("% x, %v", b, no)
	}
	if b, no := Encode(nil); no != api.OK || len(b) != 0 {
		t.Error("Encode of nothing")
	}
	for _, p := range []api.Prefix{{Addr: 1}, {Len: 33}, {Len: -1}} {
		if b, no := Encode([]api.Prefix{{}, p}); no != api.ErrForm || b != nil || Size(p) != 0 {
			t.Errorf("%v: %v", p, no)
		}
	}
}

// P8.1
func TestSize(t *testing.T) {
	for n, want := range map[int]int{0: 1, 1: 2, 8: 2, 9: 3, 16: 3, 17: 4, 24: 4, 25: 5, 32: 5} {
		p := addr.Of(0xffffffff, n)
		if b, _ := Encode([]api.Prefix{p}); Size(p) != want || len(b) != want {
			t.Errorf("Size(%v): %d", p, Size(p))
		}
	}
}

// P8.1
func TestDecode(t *testing.T) {
	l, ok := Decode([]byte{8, 10, 9, 10, 0xff, 0, 32, 1, 2, 3, 4})
	if want := []api.Prefix{addr.Of(0x0a000000, 8), addr.Of(0x0a800000, 9), {}, addr.Of(0x01020304, 32)}; !ok || !slices.Equal(l, want) {
		t.Errorf("%v", l)
	}
	if l, ok := Decode(nil); !ok || len(l) != 0 {
		t.Error("Decode of nothing")
	}
	for i, b := range [][]byte{{33, 1, 2, 3, 4, 5}, {255}, {8}, {0, 9, 1}, {32, 1, 2, 3}, {8, 10, 25, 1, 2, 3}, {8, 10, 33}} {
		if l, ok := Decode(b); ok || l != nil {
			t.Errorf("case %d: %v", i, l)
		}
	}
}

// P8.1: what is encoded is decoded.
func TestBack(t *testing.T) {
	r := rand.New(rand.NewSource(1))
	for range 2000 {
		var l []api.Prefix
		size := 0
		for range r.Intn(20) {
			l = append(l, addr.Of(r.Uint32(), r.Intn(33)))
			size += Size(l[len(l)-1])
		}
		b, no := Encode(l)
		got, ok := Decode(b)
		if no != api.OK || !ok || !slices.Equal(got, l) || len(b) != size {
			t.Fatalf("%v: %v", l, got)
		}
	}
}
