package export

import (
	"math"
	"reflect"
	"testing"

	"signpost/addr"
	"signpost/api"
	"signpost/attr"
)

const own = 65001

var ten = addr.Of(0x0a000000, 8)

func seq(as ...uint32) []api.Seg { return []api.Seg{{Kind: api.Sequence, AS: as}} }

func config() api.Config {
	return api.Config{AS: own, ID: 0x0a000001, Width: 1, Depth: 1, Peers: []api.Peer{{AS: 65002, Addr: 0x0b000002}, {AS: own, Addr: 0x0b000003}, {AS: 65004, Addr: 0x0b000004}, {AS: own, Addr: 0x0b000005}}}
}

func route() api.Path {
	return api.Path{Peer: 0, ID: 5, Addr: 0x0b000002, Attrs: api.Attrs{Origin: 1, Path: seq(65002, 7), Next: 0x0c000001, HasMed: true, Med: 4, Atomic: true, Comms: []uint32{3}}}
}

// P21.1
func TestTold(t *testing.T) {
	a, ok := Told(config(), 2, ten, route())
	if want := (api.Attrs{Origin: 1, Path: seq(own, 65002, 7), Next: 0x0a000001, Atomic: true, Comms: []uint32{3}}); !ok || !reflect.DeepEqual(a, want) {
		t.Errorf("outside: %v", a)
	}
	want := route().Attrs
	want.HasPref, want.Pref = true, 100
	if a, ok := Told(config(), 1, ten, route()); !ok || !reflect.DeepEqual(a, want) {
		t.Errorf("inside: %v", a)
	}
	r := route()
	r.Attrs.HasPref, r.Attrs.Pref = true, 7
	if a, ok := Told(config(), 1, ten, r); !ok || a.Pref != 7 {
		t.Errorf("with a Pref: %v", a)
	}
	if a, ok := Told(config(), 2, ten, r); !ok || a.HasPref || a.Pref != 0 {
		t.Errorf("outside with a Pref: %v", a)
	}
	if a, _ := Told(config(), 1, ten, r); a.Path[0].AS[0] != 65002 {
		t.Errorf("%v", a)
	} else if a.Path[0].AS[0], a.Comms[0] = 9, 9; r.Attrs.Path[0].AS[0] != 65002 || r.Attrs.Comms[0] != 3 {
		t.Error("R2: memory is shared")
	}
}

// P21.1: who is told nothing.
func TestNotTold(t *testing.T) {
	if NoExport != 0xffffff01 || NoAdvertise != 0xffffff02 {
		t.Error("the numbers of RFC 1997")
	}
	for i, c := range []struct {
		peer int
		turn func(c *api.Config, r *api.Path)
		told bool
	}{
		{2, func(c *api.Config, r *api.Path) {}, true}, {0, func(c *api.Config, r *api.Path) {}, false},
		{-1, func(c *api.Config, r *api.Path) {}, false}, {4, func(c *api.Config, r *api.Path) {}, false}, {math.MaxInt, func(c *api.Config, r *api.Path) {}, false},
		{2, func(c *api.Config, r *api.Path) { c.Width = 0 }, false}, {2, func(c *api.Config, r *api.Path) { r.Attrs.Next = 0 }, false}, {2, func(c *api.Config, r *api.Path) { r.Attrs.HasMed = false }, false},
		{1, func(c *api.Config, r *api.Path) { r.Peer, r.Inner = 3, true }, false}, {2, func(c *api.Config, r *api.Path) { r.Peer, r.Inner = 3, true }, true}, {1, func(c *api.Config, r *api.Path) { r.Peer, r.Inner = -1, true }, false},
		{0, func(c *api.Config, r *api.Path) { r.Peer = 2 }, true}, {1, func(c *api.Config, r *api.Path) { r.Attrs.Comms = []uint32{NoAdvertise} }, false}, {2, func(c *api.Config, r *api.Path) { r.Attrs.Comms = []uint32{1, NoAdvertise} }, false},
		{1, func(c *api.Config, r *api.Path) { r.Attrs.Comms = []uint32{NoExport} }, true}, {2, func(c *api.Config, r *api.Path) { r.Attrs.Comms = []uint32{NoExport} }, false},
		{2, func(c *api.Config, r *api.Path) { c.Peers[2].Out = []api.Rule{{To: 32, Reject: true}} }, false}, {2, func(c *api.Config, r *api.Path) { c.Peers[2].Out = []api.Rule{{To: 7, Reject: true}} }, true},
		{2, func(c *api.Config, r *api.Path) { c.Peers[2].Out = []api.Rule{{To: 32, AddComm: NoExport}} }, true},
		{2, func(c *api.Config, r *api.Path) {
			for range 15 {
				r.Attrs.Path = append(r.Attrs.Path, api.Seg{Kind: api.Set, AS: []uint32{1}})
			}
		}, true},
		{2, func(c *api.Config, r *api.Path) {
			r.Attrs.Path = nil
			for range 16 {
				r.Attrs.Path = append(r.Attrs.Path, api.Seg{Kind: api.Set, AS: []uint32{1}})
			}
		}, false},
	} {
		x, r := config(), route()
		c.turn(&x, &r)
		a, ok := Told(x, c.peer, ten, r)
		if ok != c.told || !ok && !reflect.DeepEqual(a, api.Attrs{}) {
			t.Errorf("case %d: %v %v", i, a, ok)
		}
	}
	if _, ok := Told(config(), 2, api.Prefix{Addr: 1}, route()); ok {
		t.Error("a prefix that is not right")
	}
}

// P21.1: the peer's policy comes last, but for the Pref of one of another AS.
func TestOut(t *testing.T) {
	c := config()
	rules := []api.Rule{{To: 32, SetPref: true, Pref: 9, SetMed: true, Med: 8, Prepend: 2, AddComm: 1}}
	c.Peers[1].Out, c.Peers[2].Out = rules, rules
	a, ok := Told(c, 2, ten, route())
	if want := (api.Attrs{Origin: 1, Path: seq(own, own, own, 65002, 7), Next: 0x0a000001, HasMed: true, Med: 8, Atomic: true, Comms: []uint32{1, 3}}); !ok || !reflect.DeepEqual(a, want) {
		t.Errorf("outside: %v", a)
	}
	if a, ok := Told(c, 1, ten, route()); !ok || !a.HasPref || a.Pref != 9 || len(a.Path[0].AS) != 4 {
		t.Errorf("inside: %v", a)
	}
}

// wide answers a route with so many ASs in four segments.
func wide(n int) api.Path {
	r := route()
	r.Attrs = api.Attrs{Next: 0x0c000001, Atomic: true}
	for k := range 4 {
		r.Attrs.Path = append(r.Attrs.Path, api.Seg{Kind: api.Set, AS: make([]uint32, (n+k)/4)})
	}
	return r
}

// P21.1: 4068 bytes of attributes, and one more.
func TestTooLong(t *testing.T) {
	fits, more := wide(1007), wide(1009)
	fits.Attrs.HasMed = true
	for i, c := range []struct {
		r    api.Path
		size int
	}{{fits, 4068}, {more, 4069}} {
		a := c.r.Attrs
		a.HasPref, a.Pref = true, 100
		b, _ := attr.Encode(a)
		if _, ok := Told(config(), 1, ten, c.r); len(b) != c.size || ok != (c.size <= 4068) {
			t.Errorf("case %d: %d bytes: %v", i, len(b), ok)
		}
	}
}

// P21.2
func TestSame(t *testing.T) {
	if !Same(route(), route()) {
		t.Error("the same")
	}
	for i, turn := range []func(*api.Path){func(p *api.Path) { p.Peer++ }, func(p *api.Path) { p.ID++ }, func(p *api.Path) { p.Addr++ }, func(p *api.Path) { p.Inner = true }, func(p *api.Path) { p.Attrs.Med++ }} {
		x := route()
		turn(&x)
		if Same(route(), x) || Same(x, route()) {
			t.Errorf("case %d", i)
		}
	}
	x := route()
	x.Attrs.Comms = []uint32{3, 3}
	if !Same(route(), x) {
		t.Error("by attr.Same")
	}
}
