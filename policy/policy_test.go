package policy

import (
	"math"
	"reflect"
	"slices"
	"testing"

	"signpost/addr"
	"signpost/api"
	"signpost/attr"
)

var (
	ten  = addr.Of(0x0a000000, 8)
	any  = api.Rule{To: 32}
	base = api.Attrs{Next: 0x0b000001, Path: []api.Seg{{Kind: 2, AS: []uint32{9}}}, Comms: []uint32{5, 6}}
)

func rule(change func(*api.Rule)) api.Rule {
	r := any
	change(&r)
	return r
}

// P13.1
func TestRight(t *testing.T) {
	for i, c := range []struct {
		r    api.Rule
		want bool
	}{
		{api.Rule{}, true}, {any, true}, {rule(func(r *api.Rule) { r.Prefix = api.Prefix{Addr: 1} }), false},
		{rule(func(r *api.Rule) { r.From = -1 }), false}, {rule(func(r *api.Rule) { r.To = 33 }), false}, {rule(func(r *api.Rule) { r.From, r.To = 9, 8 }), false}, {rule(func(r *api.Rule) { r.From, r.To = 32, 32 }), true},
		{rule(func(r *api.Rule) { r.Prepend = 10 }), true}, {rule(func(r *api.Rule) { r.Prepend = 11 }), false}, {rule(func(r *api.Rule) { r.Prepend = -1 }), false},
		{rule(func(r *api.Rule) { r.Pref = 1 }), false}, {rule(func(r *api.Rule) { r.Pref, r.SetPref = 1, true }), true}, {rule(func(r *api.Rule) { r.Med = 1 }), false}, {rule(func(r *api.Rule) { r.Med, r.SetMed = 1, true }), true},
		{rule(func(r *api.Rule) { r.From, r.To = math.MinInt, math.MaxInt }), false},
	} {
		if Right([]api.Rule{any, c.r}) != c.want {
			t.Errorf("case %d", i)
		}
	}
	if !Right(nil) || !Right(make([]api.Rule, 16)) || Right(make([]api.Rule, 17)) {
		t.Error("how many")
	}
}

// P13.1
func TestMatch(t *testing.T) {
	under := rule(func(r *api.Rule) { r.Prefix, r.From, r.To = ten, 9, 16 })
	for p, want := range map[api.Prefix]bool{addr.Of(0x0a000000, 8): false, addr.Of(0x0a000000, 9): true, addr.Of(0x0aff0000, 16): true, addr.Of(0x0a000000, 17): false, addr.Of(0x0b000000, 12): false, {}: false, {Addr: 0x0a000001, Len: 9}: false} {
		if Match(under, p, base) != want {
			t.Errorf("%v", p)
		}
	}
	for comm, want := range map[uint32]bool{0: true, 5: true, 6: true, 7: false} {
		if Match(rule(func(r *api.Rule) { r.Comm = comm }), ten, base) != want {
			t.Errorf("community %d", comm)
		}
	}
	if Match(api.Rule{Prefix: api.Prefix{Addr: 1}, To: 32}, ten, base) {
		t.Error("a rule without a right prefix")
	}
}

// P13.2
func TestFirstMatch(t *testing.T) {
	pref := func(n uint32) api.Rule { return rule(func(r *api.Rule) { r.SetPref, r.Pref = true, n }) }
	other := pref(1)
	other.Comm = 77
	a, by := Apply([]api.Rule{other, pref(200), pref(3), {To: 32, Reject: true}}, 1, ten, base)
	if !by || !a.HasPref || a.Pref != 200 || len(a.Path) != 1 {
		t.Errorf("%v", a)
	}
	a, by = Apply([]api.Rule{{To: 32, Reject: true, SetPref: true}, pref(3)}, 1, ten, base)
	if by || !reflect.DeepEqual(a, api.Attrs{}) {
		t.Errorf("Reject: %v", a)
	}
	if a, by := Apply([]api.Rule{other}, 1, ten, base); !by || !attr.Same(a, base) {
		t.Errorf("no match: %v", a)
	}
}

// P13.2
func TestTurned(t *testing.T) {
	a, by := Apply([]api.Rule{{To: 32, SetMed: true, Med: 4, Prepend: 2, AddComm: 1}}, 8, ten, base)
	want := api.Attrs{Next: base.Next, Path: []api.Seg{{Kind: 2, AS: []uint32{8, 8, 9}}}, HasMed: true, Med: 4, Comms: []uint32{1, 5, 6}}
	if !by || !reflect.DeepEqual(a, want) {
		t.Errorf("%v", a)
	}
	a, _ = Apply([]api.Rule{{To: 32, SetPref: true, SetMed: true}}, 8, ten, api.Attrs{HasPref: true, Pref: 5, HasMed: true, Med: 6})
	if !a.HasPref || a.Pref != 0 || !a.HasMed || a.Med != 0 {
		t.Errorf("%v", a)
	}
	a, _ = Apply(nil, 8, ten, api.Attrs{Pref: 4, Med: 5, Comms: []uint32{3, 1, 3}})
	if !reflect.DeepEqual(a, attr.Canon(api.Attrs{Comms: []uint32{1, 3}})) {
		t.Errorf("not Canon: %v", a)
	}
}

// P13.2: a community more, but not more than MaxComms.
func TestAddComm(t *testing.T) {
	var l []uint32
	for i := range uint32(32) {
		l = append(l, 100-i)
	}
	for i, c := range []struct {
		ahead []uint32
		add   uint32
		n     int
	}{{l[:31], 7, 32}, {l, 7, 32}, {l, 100, 32}, {nil, 7, 1}, {nil, 0, 0}, {l[:5], 98, 5}, {append(slices.Clone(l[:31]), 100), 7, 32}} {
		a, _ := Apply([]api.Rule{{To: 32, AddComm: c.add}}, 8, ten, api.Attrs{Comms: c.ahead})
		if len(a.Comms) != c.n || !slices.IsSorted(a.Comms) {
			t.Errorf("case %d: %v", i, a.Comms)
		}
	}
}

// R2
func TestMemory(t *testing.T) {
	in := attr.Canon(base)
	a, _ := Apply([]api.Rule{{To: 32, Prepend: 1, AddComm: 9}}, 8, ten, in)
	a.Path[0].AS[1], a.Comms[0] = 70, 70
	b, _ := Apply(nil, 8, ten, in)
	b.Path[0].AS[0], b.Comms[0] = 70, 70
	if !attr.Same(in, base) {
		t.Error("what was handed in was changed")
	}
}
