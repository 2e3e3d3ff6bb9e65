package fib

import (
	"math"
	"math/rand"
	"reflect"
	"testing"

	"signpost/addr"
	"signpost/api"
	"signpost/ecmp"
	"signpost/ortc"
)

var (
	a   = []api.Hop{{Link: 1, Share: 16}}
	b   = []api.Hop{{Link: 2, Share: 8}, {Link: 3, Share: 8}}
	ten = addr.Of(0x0a000000, 8)
	sub = addr.Of(0x0a010000, 16)
)

func table(t *testing.T, room int) *Table {
	t.Helper()
	x, no := New(room)
	if no != api.OK {
		t.Fatalf("New(%d): %v", room, no)
	}
	return x
}

// P25.1
func TestNew(t *testing.T) {
	for _, room := range []int{-1, 4097, math.MinInt, math.MaxInt} {
		if x, no := New(room); x != nil || no != api.ErrArg {
			t.Errorf("New(%d): %v", room, no)
		}
	}
	if x := table(t, 0); x.Set(api.Entry{}) != api.ErrFull || x.Len() != 0 || x.Writes() != 0 || x.All() != nil {
		t.Error("no room at all")
	}
	table(t, 4096)
}

// P25.1
func TestSetAndCut(t *testing.T) {
	x := table(t, 1)
	if x.Set(api.Entry{Prefix: ten, Hops: a}) != api.OK || x.Set(api.Entry{Prefix: sub, Hops: a}) != api.ErrFull || x.Set(api.Entry{Prefix: ten, Hops: b}) != api.OK || x.Set(api.Entry{Prefix: ten, Hops: b}) != api.OK {
		t.Error("Set")
	}
	if h, ok := x.Get(ten); !ok || !ecmp.Same(h, b) || x.Len() != 1 || x.Writes() != 3 {
		t.Errorf("%v, %d writes", h, x.Writes())
	}
	if h, ok := x.Get(sub); ok || h != nil || x.Cut(sub) || x.Writes() != 3 {
		t.Error("an entry that is not there")
	}
	if !x.Cut(ten) || x.Cut(ten) || x.Len() != 0 || x.Writes() != 4 {
		t.Error("Cut")
	}
	for i, e := range []api.Entry{{Prefix: api.Prefix{Addr: 1}}, {Hops: []api.Hop{{Link: 256, Share: 1}}}, {Hops: []api.Hop{{Link: 1}}}, {Hops: []api.Hop{a[0], a[0]}}} {
		if x.Set(e) != api.ErrForm || x.Len() != 0 || x.Writes() != 4 {
			t.Errorf("case %d", i)
		}
	}
	x.Room(0)
	if x.Set(api.Entry{Hops: []api.Hop{{Link: 1}}}) != api.ErrForm || x.Cut(api.Prefix{Addr: 1}) {
		t.Error("ErrForm is first")
	}
}

// P25.1
func TestMatch(t *testing.T) {
	x := table(t, 9)
	if h, ok := x.Match(5); ok || h != nil {
		t.Error("an empty Table")
	}
	x.Set(api.Entry{Prefix: ten, Hops: a})
	x.Set(api.Entry{Prefix: sub})
	if h, ok := x.Match(0x0a020000); !ok || !ecmp.Same(h, a) {
		t.Errorf("%v", h)
	}
	if h, ok := x.Match(0x0a010000); !ok || len(h) != 0 {
		t.Errorf("without hops: %v, %v", h, ok)
	}
	if _, ok := x.Match(0x0b000000); ok {
		t.Error("no entry has it")
	}
}

// P25.1
func TestRoom(t *testing.T) {
	x := table(t, 2)
	x.Set(api.Entry{Prefix: ten, Hops: a})
	x.Set(api.Entry{Prefix: sub, Hops: a})
	for _, n := range []int{1, 0, -5, math.MinInt} {
		x.Room(n)
		if x.Len() != 2 || x.Set(api.Entry{Hops: a}) != api.ErrFull || x.Set(api.Entry{Prefix: ten, Hops: b}) != api.OK {
			t.Errorf("room %d", n)
		}
	}
	y := table(t, 3)
	y.Room(0)
	if y.Set(api.Entry{Hops: a}) != api.ErrFull {
		t.Error("no room at all")
	}
	x.Room(2)
	x.Cut(ten)
	if x.Set(api.Entry{Hops: a}) != api.OK {
		t.Error("there is room again")
	}
	x.Room(math.MaxInt)
	for i := range 4094 {
		x.Set(api.Entry{Prefix: addr.Of(uint32(i), 32)})
	}
	if x.Len() != 4096 || x.Set(api.Entry{Prefix: addr.Of(0xffffffff, 32)}) != api.ErrFull {
		t.Errorf("%d entries", x.Len())
	}
}

// P25.1: held against ortc.
func TestAgainstOrtc(t *testing.T) {
	r := rand.New(rand.NewSource(1))
	x := table(t, 20)
	model := map[api.Prefix][]api.Hop{}
	writes := 0
	for range 5000 {
		p := addr.Of(uint32(r.Intn(16))<<28, r.Intn(6))
		_, had := model[p]
		if h := [][]api.Hop{nil, a, b}[r.Intn(3)]; r.Intn(3) > 0 {
			no := x.Set(api.Entry{Prefix: p, Hops: h})
			if (no == api.ErrFull) != (!had && len(model) >= 20) || no != api.OK && no != api.ErrFull {
				t.Fatalf("Set: %v", no)
			}
			if no == api.OK {
				model[p] = h
				writes++
			}
		} else {
			if x.Cut(p) != had {
				t.Fatal("Cut")
			}
			if had {
				writes++
			}
			delete(model, p)
		}
		l, at := x.All(), r.Uint32()
		h, _ := x.Match(at)
		if !ortc.Right(l) || len(l) != len(model) || x.Len() != len(model) || x.Writes() != writes || !ecmp.Same(h, ortc.Find(l, at)) {
			t.Fatalf("%v", l)
		}
		for _, e := range l {
			if !ecmp.Same(e.Hops, model[e.Prefix]) {
				t.Fatalf("%v", e)
			}
		}
	}
}

// R2
func TestMemory(t *testing.T) {
	x := table(t, 5)
	in := []api.Hop{{Link: 1, Share: 16}}
	x.Set(api.Entry{Prefix: ten, Hops: in})
	in[0].Link = 9
	h, _ := x.Get(ten)
	h[0].Link = 9
	h, _ = x.Match(ten.Addr)
	h[0].Link = 9
	x.All()[0].Hops[0].Link = 9
	if got := x.All(); !reflect.DeepEqual(got, []api.Entry{{Prefix: ten, Hops: a}}) {
		t.Errorf("%v", got)
	}
}
