package igp

import (
	"math"
	"math/rand"
	"slices"
	"testing"

	"signpost/addr"
	"signpost/api"
	"signpost/metric"
)

var (
	inf   = math.Inf(1)
	minus = math.Copysign(0, -1)
	ten   = addr.Of(0x0a000000, 8)
)

func direct(p api.Prefix, link int, cost float64) api.Way {
	return api.Way{Prefix: p, Direct: true, Link: link, Cost: cost}
}

// P15.1
func TestRight(t *testing.T) {
	for i, c := range []struct {
		w    api.Way
		want bool
	}{
		{api.Way{}, true}, {direct(ten, 0, 0), true}, {direct(ten, 255, inf), true}, {api.Way{Prefix: ten, Next: 5, Cost: minus}, true},
		{direct(ten, 256, 0), false}, {direct(ten, -1, 0), false}, {api.Way{Direct: true, Next: 1}, false}, {api.Way{Link: 1}, false}, {direct(api.Prefix{Addr: 1}, 0, 0), false},
		{direct(ten, 0, math.NaN()), false}, {direct(ten, 0, -1), false}, {direct(ten, 0, -inf), false}, {direct(ten, 0, -math.SmallestNonzeroFloat64), false},
	} {
		turned, no := New().Put(c.w)
		if Right(c.w) != c.want || (no == api.OK) != c.want || turned != c.want || !c.want && no != api.ErrForm {
			t.Errorf("case %d: %v, %v", i, Right(c.w), no)
		}
	}
}

// P15.1
func TestSame(t *testing.T) {
	w := direct(ten, 3, 5)
	for i, c := range []struct {
		turn func(*api.Way)
		want bool
	}{
		{func(w *api.Way) {}, true}, {func(w *api.Way) { w.Prefix.Len = 9 }, false}, {func(w *api.Way) { w.Direct = false }, false}, {func(w *api.Way) { w.Link = 4 }, false}, {func(w *api.Way) { w.Next = 4 }, false}, {func(w *api.Way) { w.Cost = 6 }, false},
	} {
		x := w
		c.turn(&x)
		if Same(w, x) != c.want || Same(x, w) != c.want {
			t.Errorf("case %d", i)
		}
	}
	if !Same(direct(ten, 1, minus), direct(ten, 1, 0)) || !Same(direct(ten, 1, math.NaN()), direct(ten, 1, inf)) {
		t.Error("costs at their edges")
	}
}

// P15.1
func TestPutAndCut(t *testing.T) {
	x := New()
	for i, c := range []struct {
		w    api.Way
		want bool
	}{{direct(ten, 3, 0), true}, {direct(ten, 3, minus), false}, {direct(ten, 3, inf), true}, {direct(ten, 3, inf), false}, {direct(ten, 4, inf), true}, {direct(ten, 4, minus), true}} {
		if turned, no := x.Put(c.w); turned != c.want || no != api.OK {
			t.Errorf("case %d: %v %v", i, turned, no)
		}
	}
	if w, ok := x.Get(ten); !ok || w.Link != 4 || math.Signbit(w.Cost) {
		t.Errorf("Get: %v", w)
	}
	if !x.Cut(ten) || x.Cut(ten) || x.Cut(api.Prefix{Addr: 1}) || x.All() != nil {
		t.Error("Cut")
	}
	if w, ok := x.Get(ten); ok || w != (api.Way{}) {
		t.Error("Get of none")
	}
}

// P15.1
func TestFull(t *testing.T) {
	x := New()
	for i := range api.MaxIgp {
		x.Put(direct(addr.Of(uint32(i), 32), 1, 1))
	}
	if turned, no := x.Put(direct(ten, 1, 1)); turned || no != api.ErrFull || len(x.All()) != api.MaxIgp {
		t.Errorf("full: %v", no)
	}
	if _, no := x.Put(direct(ten, 300, 1)); no != api.ErrForm {
		t.Errorf("ErrForm is first: %v", no)
	}
	if turned, no := x.Put(direct(addr.Of(5, 32), 2, 1)); !turned || no != api.OK {
		t.Errorf("one that is there: %v", no)
	}
	x.Cut(addr.Of(5, 32))
	if _, no := x.Put(direct(ten, 1, 1)); no != api.OK {
		t.Errorf("there is room again: %v", no)
	}
}

// P15.1
func TestMatch(t *testing.T) {
	x := New()
	if _, ok := x.Match(1); ok {
		t.Error("an empty Table matches")
	}
	x.Put(direct(ten, 1, 5))
	x.Put(direct(addr.Of(0x0a010000, 16), 2, inf))
	if w, ok := x.Match(0x0a010001); !ok || w.Prefix != ten {
		t.Errorf("%v", w)
	}
	x.Put(direct(addr.Of(0x0a010000, 16), 2, math.MaxFloat64))
	if w, ok := x.Match(0x0a010001); !ok || w.Link != 2 {
		t.Errorf("%v", w)
	}
	x.Put(direct(api.Prefix{}, 3, inf))
	if w, ok := x.Match(0x0b000000); ok || w != (api.Way{}) {
		t.Errorf("%v", w)
	}
}

// P15.1: held against a plain map.
func TestAgainstMap(t *testing.T) {
	r := rand.New(rand.NewSource(1))
	x, model := New(), map[api.Prefix]api.Way{}
	for range 20000 {
		p := addr.Of(uint32(r.Intn(8))<<29, r.Intn(6))
		w := api.Way{Prefix: p, Next: uint32(r.Intn(2)), Cost: []float64{0, minus, 1, inf}[r.Intn(4)]}
		old, had := model[p]
		if r.Intn(3) == 0 {
			if x.Cut(p) != had {
				t.Fatal("Cut")
			}
			delete(model, p)
			continue
		}
		if turned, _ := x.Put(w); turned != (!had || old.Next != w.Next || old.Cost != w.Cost) {
			t.Fatalf("Put(%v): %v", w, turned)
		}
		model[p] = w
		a := r.Uint32()
		best := api.Way{Prefix: api.Prefix{Len: -1}}
		for q, v := range model {
			if addr.Has(q, a) && q.Len > best.Prefix.Len && v.Cost < inf {
				best = v
			}
		}
		got, ok := x.Match(a)
		if ok != (best.Prefix.Len >= 0) || ok && !Same(got, best) {
			t.Fatalf("Match(%x): %v, not %v", a, got, best)
		}
		all := x.All()
		if len(all) != len(model) || !slices.IsSortedFunc(all, func(a, b api.Way) int {
			if addr.Less(a.Prefix, b.Prefix) {
				return -1
			}
			return 1
		}) {
			t.Fatalf("All: %v", all)
		}
		for _, w := range all {
			if !Same(w, model[w.Prefix]) || math.Float64bits(w.Cost) != metric.Bits(w.Cost) {
				t.Fatalf("All: %v", w)
			}
		}
	}
}
