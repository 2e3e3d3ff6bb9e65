package open

import (
	"bytes"
	"math"
	"testing"

	"signpost/api"
)

func hello(change func(b []byte)) []byte {
	b := []byte{4, 0xfd, 0xe9, 0, 90, 10, 0, 0, 1, 0}
	change(b)
	return b
}

// P10.1
func TestEncode(t *testing.T) {
	b, no := Encode(Hello{AS: 65001, Hold: 90, ID: 0x0a000001})
	if no != api.OK || !bytes.Equal(b, hello(func([]byte) {})) {
		t.Errorf("% x, %v", b, no)
	}
	for _, h := range []Hello{{AS: 1, Hold: 0, ID: 1}, {AS: 65535, Hold: 3, ID: 0xffffffff}, {AS: 7, Hold: 65535, ID: 5}} {
		b, no := Encode(h)
		got, note := Decode(b)
		if no != api.OK || note.Code != 0 || got != h {
			t.Errorf("%v: %v %v", h, got, note)
		}
	}
	for _, h := range []Hello{{}, {AS: 0, Hold: 9, ID: 1}, {AS: 65536, Hold: 9, ID: 1}, {AS: -1, Hold: 9, ID: 1}, {AS: 1, Hold: 1, ID: 1}, {AS: 1, Hold: 2, ID: 1}, {AS: 1, Hold: -1, ID: 1}, {AS: 1, Hold: 65536, ID: 1}, {AS: 1, Hold: 9}, {AS: math.MaxInt, Hold: math.MinInt, ID: 1}} {
		if b, no := Encode(h); no != api.ErrForm || b != nil {
			t.Errorf("%v: %v", h, no)
		}
	}
}

// P10.1: what is wrong, in its order.
func TestNotes(t *testing.T) {
	all := func(b []byte) { b[9], b[3], b[4], b[5], b[8], b[1], b[2] = 3, 0, 1, 0, 0, 0, 0 }
	for i, c := range []struct {
		b    []byte
		sub  int
		data []byte
	}{
		{nil, 0, nil}, {[]byte{3, 0, 0, 0, 0, 0, 0, 0, 0}, 0, nil},
		{hello(func(b []byte) { b[0] = 3; all(b) }), 1, []byte{0, 4}}, {hello(func(b []byte) { b[0] = 5 }), 1, []byte{0, 4}}, {append(hello(func(b []byte) { b[0] = 0 }), 1), 1, []byte{0, 4}},
		{hello(all), 0, nil}, {append(hello(func([]byte) {}), 1), 0, nil}, {append(hello(all), 1, 2), 0, nil}, {append(hello(all), 1, 2, 3, 4), 0, nil},
		{append(hello(all), 1, 2, 3), 4, nil}, {append(hello(func(b []byte) { all(b); b[9] = 1 }), 0), 4, nil},
		{hello(func(b []byte) { all(b); b[9] = 0 }), 6, nil}, {hello(func(b []byte) { b[4] = 2 }), 6, nil},
		{hello(func(b []byte) { all(b); b[9], b[4] = 0, 0 }), 3, nil},
		{hello(func(b []byte) { all(b); b[9], b[4], b[8] = 0, 3, 1 }), 2, nil},
	} {
		h, note := Decode(c.b)
		if note.Code != 2 || note.Sub != c.sub || !bytes.Equal(note.Data, c.data) || h != (Hello{}) {
			t.Errorf("case %d: %v %v", i, h, note)
		}
	}
}

// P10.1: Hold 0 may be.
func TestNoLimit(t *testing.T) {
	h, note := Decode(hello(func(b []byte) { b[4] = 0 }))
	if note.Code != 0 || h != (Hello{AS: 65001, ID: 0x0a000001}) {
		t.Errorf("%v %v", h, note)
	}
}

// P10.2
func TestNoteBytes(t *testing.T) {
	data := []byte{1, 2}
	b := EncodeNote(api.Note{Code: 0x103, Sub: -1, Data: data})
	if !bytes.Equal(b, []byte{3, 255, 1, 2}) {
		t.Errorf("% x", b)
	}
	n, ok := DecodeNote(b)
	if !ok || n.Code != 3 || n.Sub != 255 || !bytes.Equal(n.Data, data) {
		t.Errorf("%v", n)
	}
	n.Data[0] = 9
	if b[2] != 1 {
		t.Error("R2: Data is not its own")
	}
	if n, ok := DecodeNote([]byte{6, 0}); !ok || n.Code != 6 || len(n.Data) != 0 {
		t.Errorf("%v", n)
	}
	for _, b := range [][]byte{nil, {}, {6}} {
		if n, ok := DecodeNote(b); ok || n.Code != 0 || n.Sub != 0 || n.Data != nil {
			t.Errorf("% x: %v", b, n)
		}
	}
	if b := EncodeNote(api.Note{}); !bytes.Equal(b, []byte{0, 0}) {
		t.Errorf("% x", b)
	}
}
