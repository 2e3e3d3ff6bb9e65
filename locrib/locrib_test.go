package locrib

import (
	"math"
	"math/rand"
	"reflect"
	"slices"
	"testing"

	"signpost/addr"
	"signpost/adjin"
	"signpost/api"
	"signpost/igp"
	"signpost/nexthop"
	"signpost/spec"
)

const own = 65001

var ten = addr.Of(0x0a000000, 8)

func config() api.Config {
	return api.Config{AS: own, ID: 0x0a000001, Width: 4, Depth: 3, Peers: []api.Peer{
		{AS: 65002, Addr: 0x0b000002, In: []api.Rule{{Prefix: addr.Of(0x0c000000, 8), To: 32, Reject: true}}},
		{AS: own, Addr: 0x0b000003}, {AS: 65004, Addr: 0x0b000004},
	}}
}

func begin(t *testing.T) *Rib {
	t.Helper()
	r, no := New(config())
	if no != api.OK {
		t.Fatalf("New: %v", no)
	}
	return r
}

func says(next uint32, l ...api.Prefix) api.Update {
	a := api.Attrs{Next: next, Path: []api.Seg{{Kind: api.Sequence, AS: []uint32{65002}}}}
	return api.Update{Has: true, Attrs: a, NLRI: l}
}

func link(a uint32, n, link int, cost float64) api.Way {
	return api.Way{Prefix: addr.Of(a, n), Direct: true, Link: link, Cost: cost}
}

// P20.1
func TestRefusals(t *testing.T) {
	if r, no := New(api.Config{}); r != nil || no != api.ErrArg {
		t.Errorf("New: %v", no)
	}
	c := config()
	c.Peers = nil
	if _, no := New(c); no != api.ErrMany {
		t.Errorf("New: %v", no)
	}
	r := begin(t)
	for _, peer := range []int{-1, 3, math.MinInt} {
		if r.Up(peer, 0) != api.ErrPeer || r.Down(peer) != api.ErrPeer || r.Say(peer, says(0, api.Prefix{Addr: 1})) != api.ErrPeer {
			t.Errorf("peer %d", peer)
		}
	}
	if r.Up(0, 0) != api.ErrArg || r.Down(0) != api.ErrState || r.Say(0, says(0, ten)) != api.ErrState {
		t.Error("a peer that is down")
	}
	if r.Up(0, 5) != api.OK || r.Up(0, 0) != api.ErrArg || r.Up(0, 6) != api.ErrState {
		t.Error("a peer that is up")
	}
	if r.Say(0, says(0, ten)) != api.ErrForm || r.Inside(api.Way{Link: 1}) != api.ErrForm {
		t.Error("what is refused below")
	}
	var l []api.Prefix
	for i := range api.MaxIn + 1 {
		l = append(l, addr.Of(uint32(i), 32))
	}
	if r.Say(0, says(0x0b000001, l...)) != api.ErrFull || r.Dirty() != nil || r.Kept() != 0 {
		t.Error("a full table")
	}
	for i := range api.MaxIgp {
		r.Inside(link(uint32(i), 32, 1, 1))
	}
	if r.Inside(link(0x0a000000, 8, 1, 1)) != api.ErrFull || r.Inside(link(0x0a000000, 8, 1, -1)) != api.ErrForm || r.Gone(ten) || !r.Gone(addr.Of(0, 32)) {
		t.Error("the inside")
	}
	if r.Down(0) != api.OK || r.Down(0) != api.ErrState || r.Up(0, 6) != api.OK {
		t.Error("down and up")
	}
}

// P20.2
func TestStep(t *testing.T) {
	r := begin(t)
	if p, turned, ok := r.Step(0); p != (api.Prefix{}) || turned || ok {
		t.Error("Step of nothing")
	}
	r.Up(0, 9)
	r.Inside(link(0x0b000000, 8, 3, 1))
	if r.Dirty() != nil {
		t.Errorf("nothing was said: %v", r.Dirty())
	}
	sub := addr.Of(0x0a010000, 16)
	r.Say(0, says(0x0b000001, sub, ten))
	if !slices.Equal(r.Dirty(), []api.Prefix{ten, sub}) || r.All() != nil || r.Kept() != 1 {
		t.Errorf("%v", r.Dirty())
	}
	if p, turned, ok := r.Step(1); p != sub || !turned || !ok {
		t.Errorf("the second: %v", p)
	}
	if p, turned, ok := r.Step(77); p != ten || !turned || !ok || r.Dirty() != nil {
		t.Errorf("a pick that is none: %v", p)
	}
	x, ok := r.Get(ten)
	if !ok || x.Prefix != ten || x.Path.Peer != 0 || x.Path.ID != 9 || !slices.Equal(x.Hops, []api.Hop{{Link: 3, Share: 16}}) || len(r.All()) != 2 {
		t.Errorf("%v", x)
	}
	r.Say(0, says(0x0b000001, sub, ten))
	if r.Dirty() != nil {
		t.Error("the same Say again")
	}
	r.Inside(link(0x0b000000, 8, 3, 2))
	r.Inside(link(0x0c000000, 8, 3, 2))
	if len(r.Dirty()) != 2 {
		t.Errorf("a way turned: %v", r.Dirty())
	}
	if _, turned, ok := r.Step(-1); turned || !ok {
		t.Error("the cost alone does not turn what Get tells")
	}
	r.Step(0)
	r.Down(0)
	if _, turned, _ := r.Step(0); !turned {
		t.Error("it went down")
	}
	if x, ok := r.Get(ten); ok || !reflect.DeepEqual(x, spec.Loc{}) {
		t.Errorf("%v", x)
	}
}

// P20.2: the same route of a peer that came back with another ID is another one.
func TestAnotherID(t *testing.T) {
	r := begin(t)
	r.Inside(link(0x0b000000, 8, 3, 1))
	for id := uint32(9); id < 11; id++ {
		r.Up(0, id)
		r.Say(0, says(0x0b000001, ten))
		_, turned, _ := r.Step(0)
		if x, ok := r.Get(ten); !turned || !ok || x.Path.ID != id {
			t.Errorf("ID %d: %v %v", id, turned, x)
		}
		r.Down(0)
	}
}

// twin keeps what was said beside a Rib, and which prefixes may wait.
type twin struct {
	t    *testing.T
	r    *Rib
	in   *adjin.In
	ways *igp.Table
	ids  []uint32
	may  map[api.Prefix]int
}

func (x *twin) state() spec.State {
	s := spec.State{IDs: x.ids, Ways: x.ways.All()}
	for peer := range x.ids {
		for _, p := range x.in.All(peer) {
			a, _ := x.in.Raw(peer, p)
			s.Said = append(s.Said, spec.Said{Peer: peer, Prefix: p, Attrs: a})
		}
	}
	return s
}

func (x *twin) depend(way api.Prefix) {
	for _, said := range x.state().Said {
		if nexthop.Depends(x.ways, said.Attrs.Next, config().Depth, way) {
			x.may[said.Prefix] = 1
		}
	}
}

func prefixAt(r *rand.Rand) api.Prefix {
	return addr.Of(0x0a000000+uint32(r.Intn(6))<<24, 8+r.Intn(2))
}

func (x *twin) act(r *rand.Rand) {
	peer := r.Intn(3)
	next := func() uint32 { return 0x0b000000 + uint32(r.Intn(4))<<16 }
	switch r.Intn(7) {
	case 0:
		if id := uint32(5 + r.Intn(2)); x.r.Up(peer, id) == api.OK {
			x.ids[peer] = id
		}
	case 1:
		if r.Intn(3) == 0 && x.r.Down(peer) == api.OK {
			x.ids[peer] = 0
			for _, p := range x.in.Flush(peer) {
				x.may[p] = 1
			}
		}
	case 2, 3:
		u := says(next(), prefixAt(r), prefixAt(r))
		u.Attrs.Path[0].AS[0] = []uint32{7, 8, own}[r.Intn(3)]
		u.Withdrawn = []api.Prefix{prefixAt(r)}
		no := x.r.Say(peer, u)
		if (no == api.OK) != (x.ids[peer] != 0) {
			x.t.Fatalf("Say: %v", no)
		}
		if no == api.OK {
			l, _ := x.in.Take(peer, u)
			for _, p := range l {
				x.may[p] = 1
			}
		}
	case 4, 5:
		w := link(next(), 16-8*r.Intn(2), r.Intn(3), []float64{0, 1, math.Inf(1)}[r.Intn(3)])
		if r.Intn(2) == 0 {
			w = api.Way{Prefix: w.Prefix, Next: next(), Cost: w.Cost}
		}
		x.depend(w.Prefix)
		x.r.Inside(w)
		x.ways.Put(w)
		x.depend(w.Prefix)
	case 6:
		p := addr.Of(next(), 16-8*r.Intn(2))
		x.depend(p)
		if x.r.Gone(p) != x.ways.Cut(p) {
			x.t.Fatal("Gone")
		}
	}
}

// check holds what waits against what must and what may.
func (x *twin) check() {
	dirty, s := x.r.Dirty(), x.state()
	for _, p := range dirty {
		if x.may[p] == 0 {
			x.t.Fatalf("%v waits", p)
		}
	}
	for a := range uint32(6) {
		for n := 8; n <= 9; n++ {
			p := addr.Of(0x0a000000+a<<24, n)
			want, is := spec.One(config(), s, p)
			got, was := x.r.Get(p)
			if (is != was || !reflect.DeepEqual(want, got) && is) && !slices.Contains(dirty, p) {
				x.t.Fatalf("%v does not wait: %v, not %v", p, got, want)
			}
		}
	}
}

func (x *twin) step(r *rand.Rand) {
	ahead := x.r.Dirty()
	pick := r.Intn(len(ahead)+3) - 1
	before := map[api.Prefix]spec.Loc{}
	for _, l := range x.r.All() {
		before[l.Prefix] = l
	}
	p, turned, ok := x.r.Step(pick)
	if ok != (len(ahead) > 0) {
		x.t.Fatalf("Step: %v", ok)
	}
	if !ok {
		return
	}
	place := slices.Index(ahead, p)
	if place != pick && (place != 0 || pick >= 0 && pick < len(ahead)) || !slices.Equal(x.r.Dirty(), slices.Delete(ahead, place, place+1)) {
		x.t.Fatalf("pick %d: %v", pick, p)
	}
	delete(x.may, p)
	old, was := before[p]
	got, is := x.r.Get(p)
	want, must := spec.One(config(), x.state(), p)
	if is != must || is && !reflect.DeepEqual(got, want) || turned != (is != was || is && !reflect.DeepEqual(old, got)) {
		x.t.Fatalf("%v: %v, not %v (%v)", p, got, want, turned)
	}
}

// P20.2, P20.3: held against spec, with picks at random.
func TestAgainstSpec(t *testing.T) {
	r := rand.New(rand.NewSource(1))
	for range 150 {
		x := &twin{t: t, r: begin(t), ways: igp.New(), ids: make([]uint32, 3), may: map[api.Prefix]int{}}
		x.in, _ = adjin.New(config())
		for range 60 {
			x.act(r)
			x.check()
			if r.Intn(2) == 0 {
				x.step(r)
			}
		}
		for n := len(x.r.Dirty()); n > 0; n-- {
			x.step(r)
		}
		if x.r.Dirty() != nil || !reflect.DeepEqual(x.r.All(), spec.All(config(), x.state())) || x.r.Kept() != x.in.Kept() {
			t.Fatalf("W1: %v", x.r.All())
		}
	}
}

// R2
func TestMemory(t *testing.T) {
	c := config()
	r, _ := New(c)
	c.Peers[0].AS, c.Peers[0].In[0].Prefix = 9, api.Prefix{}
	r.Up(0, 9)
	r.Inside(link(0x0b000000, 8, 3, 1))
	u := says(0x0b000001, ten)
	r.Say(0, u)
	u.Attrs.Path[0].AS[0] = 4
	r.Step(0)
	x, ok := r.Get(ten)
	if !ok || x.Path.Attrs.Path[0].AS[0] != 65002 {
		t.Fatalf("%v", x)
	}
	x.Hops[0].Link, x.Path.Attrs.Path[0].AS[0] = 9, 9
	y := r.All()[0]
	y.Hops[0].Link = 8
	if z, _ := r.Get(ten); z.Hops[0].Link != 3 || z.Path.Attrs.Path[0].AS[0] != 65002 {
		t.Error("memory is shared")
	}
}
