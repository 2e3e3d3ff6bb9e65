package wire

import (
	"bytes"
	"math"
	"math/rand"
	"testing"
)

// P4.1
func TestWriter(t *testing.T) {
	w := NewWriter()
	if w.Len() != 0 || len(w.Done()) != 0 {
		t.Error("there are bytes ahead of the first")
	}
	w.U16(258)
	w.U32(1)
	if !bytes.Equal(w.Done(), []byte{1, 2, 0, 0, 0, 1}) || w.Len() != 6 {
		t.Errorf("% x", w.Done())
	}
	w.U8(0x1ff)
	w.U8(-1)
	w.U8(math.MinInt)
	w.U16(-2)
	w.U16(0x12345678)
	w.U32(0xfedcba98)
	w.Raw([]byte{7, 8})
	w.Raw(nil)
	if want := []byte{1, 2, 0, 0, 0, 1, 0xff, 0xff, 0, 0xff, 0xfe, 0x56, 0x78, 0xfe, 0xdc, 0xba, 0x98, 7, 8}; !bytes.Equal(w.Done(), want) || w.Len() != len(want) {
		t.Errorf("% x", w.Done())
	}
}

// P4.1
func TestReaderLacks(t *testing.T) {
	for i, read := range []func(*Reader) bool{
		func(r *Reader) bool { return r.U32() == 0 },
		func(r *Reader) bool { return r.Raw(4) == nil },
		func(r *Reader) bool { return r.Raw(math.MaxInt) == nil },
		func(r *Reader) bool { return r.U16() == 0x0102 && r.U16() == 0 },
		func(r *Reader) bool { return len(r.Raw(3)) == 3 && r.U8() == 0 },
	} {
		r := NewReader([]byte{1, 2, 3})
		if !read(r) || r.Fine() || r.Left() != 0 {
			t.Errorf("case %d: %d left", i, r.Left())
		}
		if r.U8() != 0 || r.U16() != 0 || r.U32() != 0 || r.Raw(1) != nil || r.Raw(0) != nil || r.Left() != 0 || r.Fine() {
			t.Errorf("case %d: it goes on", i)
		}
	}
}

// P4.1
func TestReaderIsFine(t *testing.T) {
	r := NewReader([]byte{0xff, 1, 2, 0xff, 0xff, 0xff, 0xfe, 9, 9})
	if r.Left() != 9 || r.Raw(0) != nil || r.Raw(-5) != nil || r.Raw(math.MinInt) != nil || !r.Fine() {
		t.Error("Raw of nothing")
	}
	if r.U8() != 255 || r.U16() != 258 || r.U32() != 0xfffffffe || r.Left() != 2 || !bytes.Equal(r.Raw(2), []byte{9, 9}) {
		t.Error("what is read")
	}
	if r.Left() != 0 || !r.Fine() {
		t.Error("all is read, and none lacked")
	}
	if e := NewReader(nil); e.Left() != 0 || !e.Fine() || e.Raw(0) != nil || !e.Fine() {
		t.Error("no bytes")
	}
}

// P4.1: what is written is read.
func TestBack(t *testing.T) {
	r := rand.New(rand.NewSource(1))
	for range 2000 {
		a, b, c := r.Int(), r.Int(), r.Uint32()
		w := NewWriter()
		w.U8(a)
		w.U16(b)
		w.U32(c)
		x := NewReader(w.Done())
		if x.U8() != a&0xff || x.U16() != b&0xffff || x.U32() != c || !x.Fine() || x.Left() != 0 {
			t.Fatalf("%x %x %x", a, b, c)
		}
	}
}

// R2: nothing is kept that was handed in, nothing is handed out that is kept.
func TestMemory(t *testing.T) {
	in := []byte{1, 2, 3, 4}
	r, w := NewReader(in), NewWriter()
	w.Raw(in)
	in[0], in[1] = 9, 9
	out := w.Done()
	if r.U8() != 1 || out[0] != 1 {
		t.Error("what was handed in is kept")
	}
	raw := r.Raw(2)
	raw[0] = 7
	_ = append(raw, 7)
	out[0] = 7
	_ = append(out, 7)
	w.U8(5)
	if r.U8() != 4 || w.Done()[0] != 1 || w.Done()[4] != 5 || len(out) != 4 {
		t.Error("what was handed out is kept")
	}
}
