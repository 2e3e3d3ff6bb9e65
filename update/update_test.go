package update

import (
	"bytes"
	"math/rand"
	"reflect"
	"slices"
	"testing"

	"signpost/addr"
	"signpost/api"
	"signpost/attr"
)

var (
	ten   = addr.Of(0x0a000000, 8)
	other = addr.Of(0x0b000000, 8)
	fine  = api.Attrs{Next: 0x0a000001, HasPref: true, Pref: 9}
	three = []byte{0x40, 1, 1, 0, 0x40, 2, 0, 0x40, 3, 4, 10, 0, 0, 1}
)

// body lays an UPDATE's parts one behind the other.
func body(withdrawn, attrs, there []byte) []byte {
	b := append([]byte{byte(len(withdrawn) >> 8), byte(len(withdrawn))}, withdrawn...)
	b = append(append(b, byte(len(attrs)>>8), byte(len(attrs))), attrs...)
	return append(b, there...)
}

// P9.1
func TestRight(t *testing.T) {
	one := []api.Prefix{ten}
	for i, c := range []struct {
		u    api.Update
		want bool
	}{
		{api.Update{}, true}, {api.Update{Withdrawn: one}, true}, {api.Update{Has: true, Attrs: fine, NLRI: one}, true},
		{api.Update{Attrs: api.Attrs{Path: []api.Seg{}, Comms: []uint32{}}}, true},
		{api.Update{Has: true, Attrs: fine}, false}, {api.Update{Attrs: fine, NLRI: one}, false}, {api.Update{NLRI: one}, false},
		{api.Update{Attrs: api.Attrs{Med: 1}}, false}, {api.Update{Attrs: api.Attrs{Pref: 1}}, false}, {api.Update{Attrs: api.Attrs{Origin: 1}}, false}, {api.Update{Attrs: api.Attrs{HasMed: true}}, false},
		{api.Update{Has: true, NLRI: one}, false}, {api.Update{Has: true, Attrs: api.Attrs{Next: fine.Next, Med: 1}, NLRI: one}, false},
		{api.Update{Withdrawn: []api.Prefix{ten, {Addr: 1}}}, false}, {api.Update{Has: true, Attrs: fine, NLRI: []api.Prefix{ten, {Len: 40}}}, false},
	} {
		b, no := Encode(c.u)
		if Right(c.u) != c.want || (no == api.OK) != c.want || !c.want && (no != api.ErrForm || b != nil) {
			t.Errorf("case %d: %v, %v", i, Right(c.u), no)
		}
	}
}

// P9.1
func TestEncode(t *testing.T) {
	b, no := Encode(api.Update{Withdrawn: []api.Prefix{other}, Has: true, Attrs: api.Attrs{Next: 0x0a000001}, NLRI: []api.Prefix{ten, {}}})
	if want := body([]byte{8, 11}, three, []byte{8, 10, 0}); no != api.OK || !bytes.Equal(b, want) {
		t.Errorf("% x", b)
	}
	if b, _ := Encode(api.Update{}); !bytes.Equal(b, []byte{0, 0, 0, 0}) {
		t.Errorf("% x", b)
	}
}

// P9.1: the longest, and one byte more.
func TestTooLong(t *testing.T) {
	l := slices.Repeat([]api.Prefix{addr.Of(0x01020300, 24)}, 1018) // 4072 bytes
	if b, no := Encode(api.Update{Withdrawn: append(slices.Clone(l), api.Prefix{})}); no != api.OK || len(b) != 4077 {
		t.Errorf("the longest: %d, %v", len(b), no)
	}
	if b, no := Encode(api.Update{Withdrawn: append(slices.Clone(l), ten)}); no != api.ErrLong || b != nil {
		t.Errorf("one byte more: %v", no)
	}
	if _, no := Encode(api.Update{Withdrawn: slices.Repeat(l, 40)}); no != api.ErrLong {
		t.Errorf("much more: %v", no)
	}
	if _, no := Encode(api.Update{Withdrawn: append(slices.Repeat(l, 40), api.Prefix{Addr: 1})}); no != api.ErrForm {
		t.Errorf("ErrForm is first: %v", no)
	}
}

// P9.1
func TestDecode(t *testing.T) {
	u, note := Decode([]byte{0, 0, 0, 0}, true)
	if note.Code != 0 || !reflect.DeepEqual(u, api.Update{}) {
		t.Errorf("%v %v", u, note)
	}
	u, note = Decode(body([]byte{8, 11, 0}, three, []byte{8, 10}), false)
	if note.Code != 0 || !u.Has || !slices.Equal(u.Withdrawn, []api.Prefix{other, {}}) || !slices.Equal(u.NLRI, []api.Prefix{ten}) || !attr.Same(u.Attrs, api.Attrs{Next: 0x0a000001}) {
		t.Errorf("%v %v", u, note)
	}
	u, note = Decode(body([]byte{8, 11}, three, nil), true)
	if note.Code != 0 || u.Has || !reflect.DeepEqual(u.Attrs, api.Attrs{}) || len(u.Withdrawn) != 1 {
		t.Errorf("without NLRI: %v %v", u, note)
	}
}

// P9.1
func TestNotes(t *testing.T) {
	there := []byte{8, 10}
	withPref := append(slices.Clone(three), 0x40, 5, 4, 0, 0, 0, 1)
	for i, c := range []struct {
		b     []byte
		inner bool
		sub   int
		data  []byte
	}{
		{nil, false, 1, nil}, {[]byte{0}, false, 1, nil}, {[]byte{0, 0}, false, 1, nil}, {[]byte{0, 0, 0}, false, 1, nil}, {[]byte{0, 1, 33, 0}, false, 1, nil}, {[]byte{0, 0, 0, 1}, false, 1, nil}, {[]byte{0xff, 0xff, 0, 0}, false, 1, nil},
		{body([]byte{33}, []byte{0x40}, []byte{33}), false, 10, nil}, {body([]byte{8}, nil, nil), false, 10, nil},
		{body(nil, []byte{0x40, 1, 1, 3}, []byte{33}), false, 6, []byte{0x40, 1, 1, 3}}, {body(nil, []byte{0x40, 1}, nil), false, 1, nil},
		{body(nil, nil, []byte{33}), false, 10, nil}, {body(nil, three, []byte{16, 1}), false, 10, nil},
		{body(nil, nil, there), false, 3, []byte{1}}, {body(nil, three[4:], there), true, 3, []byte{1}}, {body(nil, three[:4], there), false, 3, []byte{2}}, {body(nil, three[:7], there), false, 3, []byte{3}},
		{body(nil, three, there), true, 3, []byte{5}},
		{body(nil, three, there), false, 0, nil}, {body(nil, withPref, there), true, 0, nil}, {body(nil, withPref, there), false, 0, nil},
	} {
		u, note := Decode(c.b, c.inner)
		if c.sub == 0 && (note.Code != 0 || !u.Has) {
			t.Errorf("case %d: %v", i, note)
		}
		if c.sub != 0 && (note.Code != 3 || note.Sub != c.sub || !bytes.Equal(note.Data, c.data) || !reflect.DeepEqual(u, api.Update{})) {
			t.Errorf("case %d: %v %v", i, note, u)
		}
	}
}

// P9.2: what is encoded is decoded inside, if it has a Pref or no NLRI.
func TestBack(t *testing.T) {
	r := rand.New(rand.NewSource(1))
	some := func() []api.Prefix {
		var l []api.Prefix
		for range r.Intn(30) {
			l = append(l, addr.Of(r.Uint32(), r.Intn(33)))
		}
		return l
	}
	for range 2000 {
		u := api.Update{Withdrawn: some(), NLRI: some()}
		if len(u.NLRI) > 0 {
			u.Has, u.Attrs = true, fine
			u.Attrs.Comms = []uint32{1, uint32(2 + r.Intn(5))}
		}
		b, no := Encode(u)
		got, note := Decode(b, true)
		if no != api.OK || note.Code != 0 || !Right(got) || !slices.Equal(got.Withdrawn, u.Withdrawn) || !slices.Equal(got.NLRI, u.NLRI) || got.Has != u.Has || !attr.Same(got.Attrs, u.Attrs) {
			t.Fatalf("%v: %v %v", u, got, note)
		}
	}
}
