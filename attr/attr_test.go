package attr

import (
	"bytes"
	"math/rand"
	"reflect"
	"slices"
	"testing"

	"signpost/api"
)

const hop = 0x0a000001

func plain() api.Attrs { return api.Attrs{Next: hop} }

func with(change func(*api.Attrs)) api.Attrs {
	a := plain()
	change(&a)
	return a
}

func upTo(n int) []uint32 {
	var l []uint32
	for i := range n {
		l = append(l, uint32(i+1))
	}
	return l
}

// P7.1
func TestGood(t *testing.T) {
	for next, want := range map[uint32]bool{0: false, 0x00ffffff: false, 0x01000000: true, 0x7effffff: true, 0x7f000000: false, 0x7fffffff: false, 0x80000000: true, 0xdfffffff: true, 0xe0000000: false, 0xffffffff: false} {
		if Good(next) != want {
			t.Errorf("Good(%x)", next)
		}
	}
}

// P7.1
func TestRight(t *testing.T) {
	for i, c := range []struct {
		a    api.Attrs
		want bool
	}{
		{plain(), true}, {api.Attrs{}, false},
		{with(func(a *api.Attrs) { a.Origin = 2 }), true}, {with(func(a *api.Attrs) { a.Origin = 3 }), false}, {with(func(a *api.Attrs) { a.Origin = -1 }), false},
		{with(func(a *api.Attrs) { a.Path = []api.Seg{{Kind: 2}} }), false},
		{with(func(a *api.Attrs) { a.Med = 1 }), false}, {with(func(a *api.Attrs) { a.HasMed, a.Med = true, 1 }), true},
		{with(func(a *api.Attrs) { a.Pref = 1 }), false}, {with(func(a *api.Attrs) { a.HasPref = true }), true},
		{with(func(a *api.Attrs) { a.Comms = upTo(32) }), true}, {with(func(a *api.Attrs) { a.Comms = upTo(33) }), false},
		{with(func(a *api.Attrs) { a.Comms = []uint32{2, 1} }), false}, {with(func(a *api.Attrs) { a.Comms = []uint32{1, 1} }), false}, {with(func(a *api.Attrs) { a.Comms = []uint32{} }), true},
	} {
		b, no := Encode(c.a)
		if Right(c.a) != c.want || (no == api.OK) != c.want || !c.want && (no != api.ErrForm || b != nil) {
			t.Errorf("case %d: %v, %v", i, Right(c.a), no)
		}
	}
}

// P7.1
func TestCanon(t *testing.T) {
	in := api.Attrs{Origin: 9, Path: []api.Seg{{Kind: 2, AS: []uint32{3}}}, Next: 1, Med: 5, Pref: 6, Atomic: true, Comms: []uint32{3, 1, 3, 2}}
	got := Canon(in)
	want := api.Attrs{Origin: 9, Path: []api.Seg{{Kind: 2, AS: []uint32{3}}}, Next: 1, Atomic: true, Comms: []uint32{1, 2, 3}}
	if !reflect.DeepEqual(got, want) || !slices.Equal(in.Comms, []uint32{3, 1, 3, 2}) {
		t.Errorf("%v", got)
	}
	got.Path[0].AS[0], got.Comms[0] = 70, 70
	if in.Path[0].AS[0] != 3 {
		t.Error("R2: the path is shared")
	}
	in.HasMed, in.HasPref = true, true
	if got := Canon(in); got.Med != 5 || got.Pref != 6 {
		t.Error("with their flags they stay")
	}
	if !Same(in, Canon(in)) || Less(in, Canon(in)) || Less(Canon(in), in) {
		t.Error("Canon is the same")
	}
}

// P7.1
func TestOrder(t *testing.T) {
	seg := func(as ...uint32) []api.Seg { return []api.Seg{{Kind: 2, AS: as}} }
	row := []api.Attrs{
		{Origin: -1}, {},
		{Comms: []uint32{1}}, {Comms: []uint32{1, 2}}, {Comms: []uint32{2}}, {Atomic: true},
		{HasPref: true}, {HasPref: true, Atomic: true}, {HasPref: true, Pref: 1}, {HasMed: true}, {HasMed: true, HasPref: true}, {HasMed: true, Med: 1},
		{Next: 1}, {Path: seg(1)}, {Path: seg(1), Next: 9}, {Path: seg(2)}, {Path: seg(1, 1)}, {Origin: 1}, {Origin: 2},
	}
	for i, a := range row {
		for j, b := range row {
			if Less(a, b) != (i < j) || Same(a, b) != (i == j) {
				t.Errorf("%d and %d", i, j)
			}
		}
	}
	if !Same(api.Attrs{Med: 4, Comms: []uint32{2, 1, 2}}, api.Attrs{Pref: 5, Comms: []uint32{1, 2}}) {
		t.Error("the Canons are the same")
	}
}

// P7.2
func TestEncode(t *testing.T) {
	a := api.Attrs{Origin: 1, Path: []api.Seg{{Kind: 2, AS: []uint32{1}}}, Next: hop, HasMed: true, Med: 2, HasPref: true, Pref: 3, Atomic: true, Comms: []uint32{4, 5}}
	want := []byte{0x40, 1, 1, 1, 0x40, 2, 6, 2, 1, 0, 0, 0, 1, 0x40, 3, 4, 10, 0, 0, 1, 0x80, 4, 4, 0, 0, 0, 2, 0x40, 5, 4, 0, 0, 0, 3, 0x40, 6, 0, 0xc0, 8, 8, 0, 0, 0, 4, 0, 0, 0, 5}
	if b, no := Encode(a); no != api.OK || !bytes.Equal(b, want) {
		t.Errorf("% x", b)
	}
	if b, _ := Encode(plain()); !bytes.Equal(b, []byte{0x40, 1, 1, 0, 0x40, 2, 0, 0x40, 3, 4, 10, 0, 0, 1}) {
		t.Errorf("% x", b)
	}
	a = with(func(a *api.Attrs) { a.Path = []api.Seg{{Kind: 2, AS: make([]uint32, 63)}} }) // 254 bytes
	if b, _ := Encode(a); !bytes.Equal(b[4:7], []byte{0x40, 2, 254}) {
		t.Errorf("% x", b[:8])
	}
	a.Path[0].AS = make([]uint32, 64) // 258 bytes
	if b, _ := Encode(a); !bytes.Equal(b[4:8], []byte{0x50, 2, 1, 2}) {
		t.Errorf("% x", b[:8])
	}
}

// P7.3
func TestDecode(t *testing.T) {
	a, told, note := Decode(nil, true)
	if note.Code != 0 || len(told) != 0 || !Same(a, api.Attrs{}) {
		t.Error("Decode of nothing")
	}
	b := []byte{0xe8, 8, 12, 0, 0, 0, 9, 0, 0, 0, 2, 0, 0, 0, 9, 0xc0, 99, 1, 7, 0x80, 0, 0, 0x5f, 1, 0, 1, 2, 0x40, 5, 4, 0, 0, 0, 7}
	a, told, note = Decode(b, true)
	if note.Code != 0 || !slices.Equal(told, []int{0, 1, 5, 8, 99}) || a.Origin != 2 || !slices.Equal(a.Comms, []uint32{2, 9}) || !a.HasPref || a.Pref != 7 {
		t.Errorf("%v %v %v", a, told, note)
	}
	a, told, note = Decode(b, false)
	if note.Code != 0 || !slices.Equal(told, []int{0, 1, 8, 99}) || a.HasPref || a.Pref != 0 {
		t.Errorf("outside: %v %v %v", a, told, note)
	}
}

// P7.3: what is wrong, and with which bytes.
func TestNotes(t *testing.T) {
	long := append([]byte{0xd0, 8, 0, 132}, make([]byte, 132)...)
	for i, c := range []struct {
		b     []byte
		sub   int
		whole bool
	}{
		{[]byte{0x40}, 1, false}, {[]byte{0x40, 1}, 1, false}, {[]byte{0x40, 1, 1}, 1, false}, {[]byte{0x50, 1, 0}, 1, false}, {[]byte{0x50, 1, 0, 1}, 1, false}, {[]byte{0, 77, 5, 1}, 1, false},
		{[]byte{0x40, 1, 1, 0, 0x00, 1, 1, 9}, 1, false}, {[]byte{0x80, 50, 0, 0x80, 50, 0}, 1, false},
		{[]byte{0x40, 7, 1, 5}, 2, true}, {[]byte{0x00, 0, 0}, 2, true}, {[]byte{0x70, 255, 0, 1, 5}, 2, true},
		{[]byte{0xc0, 1, 1, 3}, 4, true}, {[]byte{0x00, 1, 9, 0, 0, 0, 0, 0, 0, 0, 0, 0}, 4, true}, {[]byte{0x60, 1, 1, 0}, 4, true}, {[]byte{0xc0, 4, 4, 0, 0, 0, 0}, 4, true}, {[]byte{0xa0, 4, 4, 0, 0, 0, 0}, 4, true}, {[]byte{0x40, 8, 0}, 4, true}, {[]byte{0x80, 8, 0}, 4, true}, {[]byte{0x80, 2, 1, 9}, 4, true},
		{[]byte{0x40, 1, 0}, 5, true}, {[]byte{0x40, 1, 2, 9, 9}, 5, true}, {[]byte{0x40, 3, 3, 0, 0, 0}, 5, true}, {[]byte{0x80, 4, 5, 0, 0, 0, 0, 0}, 5, true}, {[]byte{0x40, 5, 0}, 5, true}, {[]byte{0x40, 6, 1, 0}, 5, true}, {[]byte{0xc0, 8, 3, 0, 0, 0}, 5, true},
		{[]byte{0x40, 1, 1, 3}, 6, true}, {[]byte{0x5f, 1, 0, 1, 255}, 6, true},
		{[]byte{0x40, 3, 4, 127, 0, 0, 1}, 8, true}, {[]byte{0x40, 3, 4, 0, 0, 0, 0}, 8, true},
		{[]byte{0x40, 2, 1, 2}, 11, false}, {[]byte{0x40, 2, 6, 3, 1, 0, 0, 0, 1}, 11, false},
		{long, 9, true},
	} {
		for _, ahead := range [][]byte{nil, {0x80, 200, 1, 1}} { // and nothing of what is ahead
			a, told, note := Decode(append(slices.Clone(ahead), c.b...), true)
			var want []byte
			if c.whole {
				want = c.b
			}
			if note.Code != 3 || note.Sub != c.sub || !bytes.Equal(note.Data, want) || told != nil || !reflect.DeepEqual(a, api.Attrs{}) {
				t.Errorf("case %d: %v %v %v", i, a, told, note)
			}
		}
	}
	if a, _, note := Decode(long[:132], true); note.Sub != 1 {
		t.Errorf("cut off: %v %v", a, note)
	}
	long[3] = 128
	if _, told, note := Decode(long[:132], true); note.Code != 0 || len(told) != 1 {
		t.Errorf("32 Comms: %v", note)
	}
}

// P7.3: the first Note is told, whatever is behind.
func TestFirstNote(t *testing.T) {
	if _, _, note := Decode([]byte{0x40, 1, 1, 3, 0x40, 1}, true); note.Sub != 6 {
		t.Errorf("%v", note)
	}
	if _, _, note := Decode([]byte{0x40, 2, 1, 2, 0x40, 1, 1, 3}, true); note.Sub != 11 {
		t.Errorf("%v", note)
	}
}

// P7.3: outside a Pref is passed by when it is whole and was not there.
func TestPrefOutside(t *testing.T) {
	for i, b := range [][]byte{{0x40, 5, 4, 0, 0, 0, 1}, {0xe0, 5, 1, 9}, {0x00, 5, 0}} {
		if a, told, note := Decode(b, false); note.Code != 0 || told != nil || a.HasPref {
			t.Errorf("case %d: %v %v", i, told, note)
		}
	}
	for i, b := range [][]byte{{0x40, 5, 4, 0, 0, 0}, {0x40, 5, 0, 0x40, 5, 0}} {
		if _, _, note := Decode(b, false); note.Code != 3 || note.Sub != 1 {
			t.Errorf("case %d: %v", i, note)
		}
	}
}

func someAttrs(r *rand.Rand) api.Attrs {
	a := api.Attrs{Origin: r.Intn(3), Next: 0x01000000 + uint32(r.Intn(1<<28)), Atomic: r.Intn(2) == 0}
	for range r.Intn(17) {
		s := api.Seg{Kind: 1 + r.Intn(2)}
		for range 1 + r.Intn(40) {
			s.AS = append(s.AS, r.Uint32())
		}
		a.Path = append(a.Path, s)
	}
	if r.Intn(2) == 0 {
		a.HasMed, a.Med = true, r.Uint32()
	}
	if r.Intn(2) == 0 {
		a.HasPref, a.Pref = true, r.Uint32()
	}
	for range r.Intn(33) {
		a.Comms = append(a.Comms, uint32(r.Intn(1000)))
	}
	return Canon(a)
}

// P7.4: what is encoded is decoded, inside.
func TestBack(t *testing.T) {
	r := rand.New(rand.NewSource(1))
	for range 3000 {
		a := someAttrs(r)
		b, no := Encode(a)
		got, told, note := Decode(b, true)
		if no != api.OK || note.Code != 0 || !Same(got, a) || !Right(got) || !slices.IsSorted(told) || slices.Contains(told, 5) != a.HasPref {
			t.Fatalf("%v: %v %v", a, got, note)
		}
	}
}

// R1
func TestRubbish(t *testing.T) {
	r := rand.New(rand.NewSource(2))
	for range 20000 {
		b, _ := Encode(someAttrs(r))
		for range 1 + r.Intn(4) {
			b[r.Intn(len(b))] = byte(r.Intn(256))
		}
		if a, _, note := Decode(b[:r.Intn(len(b)+1)], r.Intn(2) == 0); note.Code != 0 && note.Code != 3 || note.Code == 0 && a.Origin > 2 {
			t.Fatalf("% x: %v", b, note)
		}
	}
}
