package engine

import (
	"math"
	"math/rand"
	"reflect"
	"testing"

	"signpost/addr"
	"signpost/adjout"
	"signpost/api"
	"signpost/ecmp"
	"signpost/export"
	"signpost/frame"
	"signpost/ortc"
	"signpost/pack"
	"signpost/session"
	"signpost/spec"
)

// world is an Engine with four neighbours, and what they were sent since they are Established.
type world struct {
	t    *testing.T
	r    *rand.Rand
	e    *Engine
	sent [4][]byte
}

func (w *world) do(i api.Item) {
	w.note(w.e.Do(i))
}

func (w *world) note(l []Sent) {
	last := -1
	for _, x := range l {
		if x.Peer <= last || x.Peer > 3 || len(x.Bytes) == 0 {
			w.t.Fatalf("%v", l)
		}
		last = x.Peer
		w.sent[x.Peer] = append(w.sent[x.Peer], x.Bytes...)
	}
	for peer := range w.sent {
		if w.e.Session(peer) != session.Established {
			w.sent[peer] = nil
		}
	}
}

func (w *world) prefix() api.Prefix {
	return addr.Of(0x0a000000+uint32(w.r.Intn(6))<<24, 8+w.r.Intn(3))
}

func (w *world) next() uint32 { return 0x14000000 + uint32(w.r.Intn(4))<<16 }

// act lets something happen.
func (w *world) act() {
	peer := w.r.Intn(4)
	switch w.r.Intn(12) {
	case 0, 1:
		w.do(api.Item{Kind: api.Up, Peer: peer})
		w.do(feed(peer, hello(peer), alive))
	case 2:
		w.do([]api.Item{{Kind: api.Down, Peer: peer}, feed(peer, []byte{1, 2, 3}), {Kind: api.Tick, N: w.r.Intn(4)}, {Kind: api.Room, N: []int{4096, 4096, 2}[w.r.Intn(3)]}}[w.r.Intn(4)])
	case 3, 4, 5, 6:
		w.do(feed(peer, news(peer, w.next(), w.prefix(), w.prefix()), gone(w.prefix())))
	case 7, 8:
		i := inside(w.next(), 16-8*w.r.Intn(2), w.r.Intn(3), []float64{0, 1, math.Inf(1)}[w.r.Intn(3)])
		if w.r.Intn(2) == 0 {
			i.Way = api.Way{Prefix: i.Way.Prefix, Next: w.next(), Cost: i.Way.Cost}
		}
		w.do(i)
	case 9:
		w.do(api.Item{Kind: api.Gone, Way: api.Way{Prefix: addr.Of(w.next(), 16-8*w.r.Intn(2))}})
	case 10:
		w.do(api.Item{Kind: api.Pick, N: w.r.Intn(9) - 1})
	case 11:
		w.load(w.r.Intn(6))
	}
}

// load writes on the table, one write at a time (W4).
func (w *world) load(n int) {
	for range n {
		ahead := w.e.Table()
		w.do(api.Item{Kind: api.Load, N: 1})
		if now := w.e.Table(); len(now)-len(ahead) > 1 || len(ahead)-len(now) > 1 {
			w.t.Fatalf("more than one write: %v, %v", ahead, now)
		}
	}
}

// settle does all work, picked at random or not, and counts (W2).
func (w *world) settle() {
	dirty := w.e.Work() - len(w.e.untold())
	most := dirty + api.MaxPeers
	random := w.r.Intn(2) == 0
	if random {
		most = (dirty + 1) * (api.MaxPeers + 1)
	}
	n := 0
	for !w.e.Quiet() {
		pick := 0
		if random {
			pick = w.r.Intn(w.e.Work())
		}
		w.do(api.Item{Kind: api.Pick, N: pick})
		n++
	}
	if n > most {
		w.t.Fatalf("W2: %d picks, not %d", n, most)
	}
}

// check holds what is against what was said (W1, W5).
func (w *world) check() {
	c, s := config(), w.e.State()
	locs := w.e.Locs()
	if !reflect.DeepEqual(locs, spec.All(c, s)) {
		w.t.Fatalf("W1: %v, not %v", locs, spec.All(c, s))
	}
	for peer := range w.sent {
		if w.e.Session(peer) != session.Established {
			if w.e.Known(peer) != nil || s.IDs[peer] != 0 {
				w.t.Fatalf("peer %d is not up", peer)
			}
			continue
		}
		var want, heard []adjout.Change
		for _, x := range locs {
			if a, ok := export.Told(c, peer, x.Prefix, x.Path); ok {
				want = append(want, adjout.Change{Prefix: x.Prefix, Attrs: a, There: true})
			}
		}
		all, no := pack.Fold(w.updates(peer), c.Peers[peer].AS == c.AS)
		for _, x := range all {
			if x.There {
				heard = append(heard, x)
			}
		}
		if known := w.e.Known(peer); !reflect.DeepEqual(known, want) || no != api.OK || !reflect.DeepEqual(heard, known) {
			w.t.Fatalf("W5: peer %d knows %v, was told %v, should know %v", peer, known, heard, want)
		}
	}
}

// updates cuts what a peer was sent into messages.
func (w *world) updates(peer int) [][]byte {
	var out [][]byte
	for b := w.sent[peer]; len(b) > 0; {
		kind, _, n, note := frame.Split(b)
		if n == 0 || note.Code != 0 {
			w.t.Fatalf("W5: % x", b)
		}
		if kind == api.UpdateMsg {
			out = append(out, b[:n])
		}
		b = b[n:]
	}
	return out
}

// fill loads until nothing is left (W3, W4).
func (w *world) fill() {
	w.do(api.Item{Kind: api.Room, N: 4096})
	ahead := w.e.Table()
	want := spec.Table(config(), w.e.State())
	for range 500 {
		w.do(api.Item{Kind: api.Load, N: 1})
		now := w.e.Table()
		for i := range uint32(64) {
			a := 0x0a000000 + i<<22
			if i >= 32 {
				a = 0x14000000 + (i-32)<<16
			}
			if got := ortc.Find(now, a); !ecmp.Same(got, ortc.Find(ahead, a)) && !ecmp.Same(got, ortc.Find(want, a)) {
				w.t.Fatalf("W4: %x: %v", a, got)
			}
		}
		if reflect.DeepEqual(now, ortc.Less(want)) {
			break
		}
	}
	if now := w.e.Table(); !ortc.Alike(now, want) || len(now) != ortc.Least(want) || w.e.Degraded() {
		w.t.Fatalf("W3: %v, not %v", now, want)
	}
}

// P27.3: W1 to W5, whatever happens.
func TestWhole(t *testing.T) {
	r := rand.New(rand.NewSource(1))
	routes := 0
	for range 400 {
		w := &world{t: t, r: r, e: begin(t)}
		for range 4 {
			for range r.Intn(40) {
				w.act()
			}
			w.settle()
			w.check()
			routes += len(w.e.Locs())
		}
		w.fill()
	}
	if routes < 200 {
		t.Errorf("%d routes", routes)
	}
}

// P27.2: Settle is Picks of 0 until Quiet.
func TestSettle(t *testing.T) {
	r := rand.New(rand.NewSource(2))
	for range 40 {
		a, b := &world{t: t, r: rand.New(rand.NewSource(r.Int63())), e: begin(t)}, &world{t: t, e: begin(t)}
		seed := r.Int63()
		a.r, b.r = rand.New(rand.NewSource(seed)), rand.New(rand.NewSource(seed))
		for range 40 {
			a.act()
			b.act()
		}
		var want []Sent
		for !a.e.Quiet() {
			want = append(want, a.e.Do(api.Item{Kind: api.Pick})...)
		}
		if got := b.e.Settle(); !reflect.DeepEqual(got, want) || b.e.Work() != 0 {
			t.Fatalf("%v, not %v", got, want)
		}
	}
}
