package aspath

import (
	"bytes"
	"math"
	"math/rand"
	"slices"
	"testing"

	"signpost/api"
)

func seq(as ...uint32) api.Seg { return api.Seg{Kind: api.Sequence, AS: as} }
func set(as ...uint32) api.Seg { return api.Seg{Kind: api.Set, AS: as} }

func many(n int) []uint32 { return make([]uint32, n) }

// P6.1
func TestRight(t *testing.T) {
	full := slices.Repeat([]api.Seg{seq(1)}, 16)
	for i, l := range [][]api.Seg{nil, {seq(1)}, {set(1), seq(0xffffffff, 0)}, {seq(many(255)...)}, full} {
		if !Right(l) {
			t.Errorf("case %d is right", i)
		}
	}
	for i, l := range [][]api.Seg{{seq()}, {seq(1), set()}, {{Kind: 0, AS: []uint32{1}}}, {{Kind: 3, AS: []uint32{1}}}, {{Kind: -1, AS: []uint32{1}}}, {seq(many(256)...)}, append(full, set(1))} {
		if Right(l) {
			t.Errorf("case %d is not right", i)
		}
		if b, no := Encode(l); no != api.ErrForm || b != nil {
			t.Errorf("P6.2: Encode, case %d: %v", i, no)
		}
	}
}

// P6.1
func TestCountHasFirst(t *testing.T) {
	odd := api.Seg{Kind: 7, AS: []uint32{9, 9}}
	l := []api.Seg{seq(1, 2), set(3, 4), odd}
	if Count(l) != 3 || Count(nil) != 0 || Count([]api.Seg{set(), seq()}) != 1 {
		t.Errorf("Count: %d", Count(l))
	}
	for as, want := range map[uint32]bool{1: true, 2: true, 3: true, 4: true, 5: false, 0: false} {
		if Has(l, as) != want {
			t.Errorf("Has %d", as)
		}
	}
	if as, ok := First(l); as != 1 || !ok {
		t.Error("First")
	}
	for _, l := range [][]api.Seg{nil, {set(1)}, {seq()}, {odd, seq(1)}} {
		if as, ok := First(l); as != 0 || ok {
			t.Errorf("First of %v", l)
		}
	}
}

// P6.1
func TestPrepend(t *testing.T) {
	for i, c := range []struct {
		l    []api.Seg
		n    int
		want []api.Seg
	}{
		{nil, 0, nil}, {nil, 1, []api.Seg{seq(7)}}, {[]api.Seg{seq(1)}, -1, []api.Seg{seq(1)}}, {[]api.Seg{seq(1)}, math.MinInt, []api.Seg{seq(1)}},
		{[]api.Seg{seq(1), set(2)}, 2, []api.Seg{seq(7, 7, 1), set(2)}},
		{[]api.Seg{set(2)}, 2, []api.Seg{seq(7, 7), set(2)}},
		{[]api.Seg{seq(many(255)...)}, 3, []api.Seg{seq(7, 7, 7), seq(many(255)...)}},
		{[]api.Seg{seq(many(253)...)}, 3, []api.Seg{seq(7), seq(append([]uint32{7, 7}, many(253)...)...)}},
		{nil, 11, []api.Seg{seq(7, 7, 7, 7, 7, 7, 7, 7, 7, 7)}}, {nil, math.MaxInt, []api.Seg{seq(7, 7, 7, 7, 7, 7, 7, 7, 7, 7)}},
	} {
		if got := Prepend(c.l, 7, c.n); !Same(got, c.want) {
			t.Errorf("case %d: %v", i, got)
		}
	}
}

// R2
func TestPrependLeavesItsList(t *testing.T) {
	as := []uint32{1, 2, 3, 4}
	l := []api.Seg{{Kind: api.Sequence, AS: as[:2]}, {Kind: api.Set, AS: as[2:3]}}
	got := Prepend(l, 7, 1)
	got[0].AS[1], got[1].AS[0] = 50, 50
	_ = append(got[1].AS, 60)
	if !slices.Equal(as, []uint32{1, 2, 3, 4}) || len(l[0].AS) != 2 {
		t.Errorf("%v", as)
	}
	same := Prepend(l, 7, 0)
	same[0].AS[0] = 9
	if as[0] != 1 {
		t.Error("Prepend of none shares memory")
	}
}

// P6.1
func TestOrder(t *testing.T) {
	row := [][]api.Seg{nil, {{Kind: -3}}, {set(1)}, {set(2)}, {set(2), set(1)}, {set(0, 0)}, {seq()}, {seq(1)}, {seq(1), seq(0)}, {seq(1), seq(5)}, {seq(2)}, {seq(0, 9)}, {seq(1, 0)}, {seq(1, 0xffffffff)}}
	for i, a := range row {
		for j, b := range row {
			if Less(a, b) != (i < j) || Same(a, b) != (i == j) {
				t.Errorf("%v and %v", a, b)
			}
		}
	}
	if !Same([]api.Seg{}, nil) || !Same([]api.Seg{{Kind: 1}}, []api.Seg{{Kind: 1, AS: []uint32{}}}) {
		t.Error("R4: empty lists")
	}
}

// P6.2
func TestBytes(t *testing.T) {
	l := []api.Seg{seq(1, 0x01020304), set(5)}
	want := []byte{2, 2, 0, 0, 0, 1, 1, 2, 3, 4, 1, 1, 0, 0, 0, 5}
	if b, no := Encode(l); no != api.OK || !bytes.Equal(b, want) {
		t.Errorf("% x, %v", b, no)
	}
	if got, ok := Decode(want); !ok || !Same(got, l) {
		t.Errorf("%v", got)
	}
	if got, ok := Decode(nil); !ok || len(got) != 0 {
		t.Error("Decode of nothing")
	}
	one := []byte{2, 1, 0, 0, 0, 9}
	if _, ok := Decode(bytes.Repeat(one, 16)); !ok {
		t.Error("sixteen segments")
	}
	for i, b := range [][]byte{{2}, {2, 0}, {2, 1}, {2, 1, 0, 0, 0}, {0, 1, 0, 0, 0, 1}, {3, 1, 0, 0, 0, 1}, append(one, 0), append(one, 2, 0), want[:15], bytes.Repeat(one, 17)} {
		if l, ok := Decode(b); ok || l != nil {
			t.Errorf("case %d: %v", i, l)
		}
	}
}

// P6.2
func TestBack(t *testing.T) {
	r := rand.New(rand.NewSource(1))
	for range 2000 {
		var l []api.Seg
		for range r.Intn(17) {
			s := api.Seg{Kind: 1 + r.Intn(2), AS: make([]uint32, 1+r.Intn(255))}
			for i := range s.AS {
				s.AS[i] = r.Uint32()
			}
			l = append(l, s)
		}
		b, no := Encode(l)
		got, ok := Decode(b)
		if no != api.OK || !ok || !Same(got, l) {
			t.Fatalf("%v: %v", l, got)
		}
	}
}
