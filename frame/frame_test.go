package frame

import (
	"bytes"
	"math"
	"testing"

	"signpost/api"
)

// raw is a message with a head as it is given.
func raw(size, kind int, body ...byte) []byte {
	b := bytes.Repeat([]byte{0xff}, 16)
	return append(append(b, byte(size>>8), byte(size), byte(kind)), body...)
}

// P5.1
func TestJoin(t *testing.T) {
	if b, no := Join(api.Keepalive, nil); no != api.OK || !bytes.Equal(b, raw(19, 4)) {
		t.Errorf("% x, %v", b, no)
	}
	if b, no := Join(api.Open, []byte{7}); no != api.OK || !bytes.Equal(b, raw(20, 1, 7)) {
		t.Errorf("% x, %v", b, no)
	}
	for _, kind := range []int{0, 5, -1, 257, math.MinInt, math.MaxInt} {
		if b, no := Join(kind, make([]byte, 5000)); no != api.ErrKind || b != nil {
			t.Errorf("kind %d: %v", kind, no)
		}
	}
	if b, no := Join(api.UpdateMsg, make([]byte, 4077)); no != api.OK || len(b) != 4096 || b[16] != 0x10 || b[17] != 0 {
		t.Errorf("the longest: %v", no)
	}
	if b, no := Join(api.UpdateMsg, make([]byte, 4078)); no != api.ErrLong || b != nil {
		t.Errorf("one longer: %v", no)
	}
}

// P5.1: a whole message, and what is behind it.
func TestSplit(t *testing.T) {
	b := append(raw(25, 2, 1, 2, 3, 4, 5, 6), 0xff, 0xff)
	kind, body, n, note := Split(b)
	if kind != api.UpdateMsg || !bytes.Equal(body, []byte{1, 2, 3, 4, 5, 6}) || n != 25 || note.Code != 0 {
		t.Errorf("%d % x %d %v", kind, body, n, note)
	}
	b[19] = 99
	body = append(body, 77)
	if body[0] != 1 || b[25] != 0xff {
		t.Error("R2: the body is not its own")
	}
}

// P5.1: what is not whole yet.
func TestNotYet(t *testing.T) {
	long := raw(4096, 2, make([]byte, 4076)...)
	for i, b := range [][]byte{nil, {1}, make([]byte, 18), raw(23, 2), raw(23, 2, 1, 2, 3), long} {
		if kind, body, n, note := Split(b); kind != 0 || body != nil || n != 0 || note.Code != 0 || note.Sub != 0 || note.Data != nil {
			t.Errorf("case %d: %d % x %d %v", i, kind, body, n, note)
		}
	}
	if _, body, n, _ := Split(append(long, 0)); n != 4096 || len(body) != 4077 {
		t.Errorf("the longest: %d", n)
	}
}

// P5.1: what is wrong, in its order.
func TestNotes(t *testing.T) {
	marker := raw(9, 9)
	marker[15] = 0xfe
	first := raw(9, 9)
	first[0] = 0
	for i, c := range []struct {
		b    []byte
		sub  int
		data []byte
	}{
		{marker, 1, nil}, {first, 1, nil}, {make([]byte, 19), 1, nil},
		{raw(18, 9), 2, []byte{0, 18}}, {raw(0, 4), 2, []byte{0, 0}}, {raw(4097, 2), 2, []byte{0x10, 1}}, {raw(65535, 0), 2, []byte{0xff, 0xff}},
		{raw(19, 0), 3, []byte{0}}, {raw(19, 5), 3, []byte{5}}, {raw(4096, 255), 3, []byte{255}},
		{raw(28, 1), 2, []byte{0, 28}}, {raw(22, 2), 2, []byte{0, 22}}, {raw(20, 3), 2, []byte{0, 20}}, {raw(20, 4), 2, []byte{0, 20}}, {raw(4096, 4), 2, []byte{0x10, 0}},
	} {
		kind, body, n, note := Split(c.b)
		if kind != 0 || body != nil || n != 0 || note.Code != 1 || note.Sub != c.sub || !bytes.Equal(note.Data, c.data) {
			t.Errorf("case %d: %v", i, note)
		}
	}
}

// P5.2: what is joined is split, if it is as long as its kind asks.
func TestBack(t *testing.T) {
	least := map[int]int{api.Open: 10, api.UpdateMsg: 4, api.Notification: 2, api.Keepalive: 0}
	for kind, from := range least {
		for size := range 60 {
			body := bytes.Repeat([]byte{byte(size)}, size)
			b, _ := Join(kind, body)
			k, got, n, note := Split(b)
			fits := size == from || size > from && kind != api.Keepalive
			if fits && (k != kind || !bytes.Equal(got, body) || n != len(b) || note.Code != 0) {
				t.Errorf("kind %d, %d bytes: %v", kind, size, note)
			}
			if !fits && (note.Code != 1 || note.Sub != 2) {
				t.Errorf("kind %d, %d bytes: %v", kind, size, note)
			}
		}
	}
}
