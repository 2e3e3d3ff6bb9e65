package engine

import (
	"bytes"
	"math"
	"reflect"
	"slices"
	"testing"

	"signpost/addr"
	"signpost/api"
	"signpost/attr"
	"signpost/frame"
	"signpost/open"
	"signpost/ortc"
	"signpost/pack"
	"signpost/session"
	"signpost/spec"
	"signpost/update"
)

const own = 65001

var ten = addr.Of(0x0a000000, 8)

func config() api.Config {
	return api.Config{AS: own, ID: 0x0a000001, Hold: 9, Width: 4, Depth: 3, Room: 4096, Peers: []api.Peer{
		{AS: 65002, Addr: 0x0b000002, In: []api.Rule{{Prefix: addr.Of(0x0f000000, 8), To: 32, Reject: true}}},
		{AS: own, Addr: 0x0b000003},
		{AS: 65004, Addr: 0x0b000004, Out: []api.Rule{{Prefix: addr.Of(0x0e000000, 8), To: 32, Reject: true}, {To: 32, SetMed: true, Med: 7}}},
		{AS: own, Addr: 0x0b000005},
	}}
}

func begin(t *testing.T) *Engine {
	t.Helper()
	e, no := New(config())
	if no != api.OK {
		t.Fatalf("New: %v", no)
	}
	return e
}

func msg(kind int, body []byte) []byte {
	b, _ := frame.Join(kind, body)
	return b
}

func hello(peer int) []byte {
	c := config()
	body, _ := open.Encode(open.Hello{AS: int(c.Peers[peer].AS), Hold: 9, ID: uint32(100 + peer)})
	return msg(api.Open, body)
}

var alive = msg(api.Keepalive, nil)

func says(code, sub int, data ...byte) []byte {
	return msg(api.Notification, append([]byte{byte(code), byte(sub)}, data...))
}

func feed(peer int, b ...[]byte) api.Item {
	return api.Item{Kind: api.Feed, Peer: peer, Bytes: bytes.Join(b, nil)}
}

// up brings a peer's session up.
func up(t *testing.T, e *Engine, peer int) {
	t.Helper()
	e.Do(api.Item{Kind: api.Up, Peer: peer})
	got := e.Do(feed(peer, hello(peer), alive))
	if e.Session(peer) != session.Established || len(got) != 1 || got[0].Peer != peer || !bytes.Equal(got[0].Bytes, alive) {
		t.Fatalf("peer %d: state %d, %v", peer, e.Session(peer), got)
	}
}

// news is an UPDATE of a peer.
func news(peer int, next uint32, l ...api.Prefix) []byte {
	a := api.Attrs{Next: next}
	if as := config().Peers[peer].AS; as != own {
		a.Path = []api.Seg{{Kind: api.Sequence, AS: []uint32{as}}}
	} else {
		a.HasPref, a.Pref = true, 100
	}
	body, _ := update.Encode(api.Update{Has: true, Attrs: a, NLRI: l})
	return msg(api.UpdateMsg, body)
}

func gone(l ...api.Prefix) []byte {
	body, _ := update.Encode(api.Update{Withdrawn: l})
	return msg(api.UpdateMsg, body)
}

func inside(a uint32, n, link int, cost float64) api.Item {
	return api.Item{Kind: api.Inside, Way: api.Way{Prefix: addr.Of(a, n), Direct: true, Link: link, Cost: cost}}
}

// P27.1
func TestNew(t *testing.T) {
	for want, turn := range map[api.Errno]func(*api.Config){api.ErrArg: func(c *api.Config) { c.Room = 5000 }, api.ErrMany: func(c *api.Config) { c.Peers = nil }, api.ErrPeer: func(c *api.Config) { c.Peers[1].AS = 0 }} {
		c := config()
		turn(&c)
		if e, no := New(c); e != nil || no != want {
			t.Errorf("%v, not %v", no, want)
		}
	}
	e := begin(t)
	if e.Work() != 0 || !e.Quiet() || e.Locs() != nil || e.Table() != nil || e.Degraded() || e.Settle() != nil || e.Session(0) != session.Idle {
		t.Error("it does not stand still")
	}
	if s := e.State(); s.Said != nil || s.Ways != nil || !slices.Equal(s.IDs, make([]uint32, 4)) {
		t.Errorf("%v", s)
	}
}

// P27.1
func TestNothing(t *testing.T) {
	e := begin(t)
	up(t, e, 0)
	for _, peer := range []int{-1, 4, math.MinInt, math.MaxInt} {
		for kind := api.Up; kind <= api.Feed; kind++ {
			if got := e.Do(api.Item{Kind: kind, Peer: peer, Bytes: []byte{1}}); got != nil {
				t.Errorf("peer %d: %v", peer, got)
			}
		}
		if e.Session(peer) != 0 || e.Known(peer) != nil {
			t.Errorf("peer %d is one", peer)
		}
	}
	for _, kind := range []int{0, -1, 10, math.MaxInt} {
		if got := e.Do(api.Item{Kind: kind, Bytes: []byte{1}}); got != nil || e.Session(0) != session.Established {
			t.Errorf("kind %d: %v", kind, got)
		}
	}
	if e.Do(api.Item{Kind: api.Pick}) != nil || e.Do(api.Item{Kind: api.Up}) != nil || e.Do(api.Item{Kind: api.Inside, Way: api.Way{Link: 1}}) != nil || e.State().Ways != nil {
		t.Error("nothing to do")
	}
}

// P27.1
func TestLines(t *testing.T) {
	e := begin(t)
	got := e.Do(api.Item{Kind: api.Up, Peer: 2})
	if len(got) != 1 || got[0].Peer != 2 || !bytes.Equal(got[0].Bytes, msg(api.Open, []byte{4, 0xfd, 0xe9, 0, 9, 10, 0, 0, 1, 0})) {
		t.Errorf("%v", got)
	}
	e.Do(feed(2, hello(2)))
	if s := e.State(); s.IDs[2] != 0 {
		t.Error("it is not up yet")
	}
	e.Do(feed(2, alive))
	if s := e.State(); s.IDs[2] != 102 || e.Session(2) != session.Established {
		t.Errorf("%v", s.IDs)
	}
	if got := e.Do(api.Item{Kind: api.Down, Peer: 2}); len(got) != 1 || !bytes.Equal(got[0].Bytes, says(6, 0)) || e.State().IDs[2] != 0 || e.Session(2) != session.Idle {
		t.Errorf("%v", got)
	}
	up(t, e, 2)
	up(t, e, 0)
	got = e.Do(api.Item{Kind: api.Tick, N: 4})
	if want := []Sent{{0, alive}, {2, alive}}; !reflect.DeepEqual(got, want) {
		t.Errorf("%v", got)
	}
	got = e.Do(api.Item{Kind: api.Tick, N: math.MaxInt})
	want := bytes.Join([][]byte{alive, says(4, 0)}, nil)
	if len(got) != 2 || !bytes.Equal(got[0].Bytes, want) || !bytes.Equal(got[1].Bytes, want) || e.State().IDs[0] != 0 {
		t.Errorf("%v", got)
	}
	if e.Do(api.Item{Kind: api.Tick, N: -5}) != nil {
		t.Error("no ticks")
	}
}

// P27.1: 1000 ticks at most.
func TestMostTicks(t *testing.T) {
	c := config()
	c.Hold = 65535
	e, _ := New(c)
	e.Do(api.Item{Kind: api.Up})
	body, _ := open.Encode(open.Hello{AS: 65002, Hold: 1100, ID: 5})
	e.Do(feed(0, msg(api.Open, body), alive))
	e.Do(api.Item{Kind: api.Tick, N: 5000})
	if e.Session(0) != session.Established {
		t.Error("too many ticks")
	}
	e.Do(api.Item{Kind: api.Tick, N: 99})
	if e.Session(0) != session.Established {
		t.Error("too many ticks")
	}
	if e.Do(api.Item{Kind: api.Tick, N: 1}); e.Session(0) != session.Idle {
		t.Error("too few ticks")
	}
}

// P27.1: a route from a peer to the others and into the table.
func TestRoute(t *testing.T) {
	e := begin(t)
	for peer := range 4 {
		up(t, e, peer)
	}
	e.Do(inside(0x0c000000, 8, 3, 1))
	if e.Do(feed(0, news(0, 0x0c000001, ten))) != nil || e.Work() != 1 || e.Quiet() {
		t.Errorf("%d pieces", e.Work())
	}
	if e.Do(api.Item{Kind: api.Pick}) != nil || e.Work() != 3 || len(e.Locs()) != 1 {
		t.Errorf("%d pieces, %v", e.Work(), e.Locs())
	}
	got := e.Do(api.Item{Kind: api.Pick, N: 1})
	if len(got) != 1 || got[0].Peer != 2 {
		t.Fatalf("%v", got)
	}
	want := api.Attrs{Path: []api.Seg{{Kind: 2, AS: []uint32{own, 65002}}}, Next: 0x0a000001, HasMed: true, Med: 7}
	if l, no := pack.Fold([][]byte{got[0].Bytes}, false); no != api.OK || len(l) != 1 || l[0].Prefix != ten || !attr.Same(l[0].Attrs, want) || !reflect.DeepEqual(l, e.Known(2)) {
		t.Errorf("%v %v", l, e.Known(2))
	}
	if e.Known(1) != nil || e.Known(0) != nil {
		t.Error("they were not told yet")
	}
	if got := e.Settle(); len(got) != 2 || got[0].Peer != 1 || got[1].Peer != 3 || len(e.Known(3)) != 1 {
		t.Errorf("%v", got)
	}
	up(t, begin(t), 1)
	e.Do(feed(0, gone(ten)))
	e.Do(api.Item{Kind: api.Pick, N: 99})
	if len(e.Known(1)) != 1 || e.Work() != 3 {
		t.Errorf("what was told is told until another word: %v", e.Known(1))
	}
	if e.Settle(); len(e.Known(1)) != 0 || len(e.Locs()) != 0 {
		t.Errorf("%v", e.Known(1))
	}
}

// P27.1: all of Locs waits to be told to a peer that comes up.
func TestLateComer(t *testing.T) {
	e := begin(t)
	up(t, e, 0)
	e.Do(inside(0x0c000000, 8, 3, 1))
	e.Do(feed(0, news(0, 0x0c000001, ten, addr.Of(0x0e000000, 8), addr.Of(0x0f000000, 8), addr.Of(0x0d000000, 8))))
	e.Settle()
	if len(e.Locs()) != 3 {
		t.Fatalf("%v", e.Locs())
	}
	up(t, e, 2)
	if e.Work() != 1 {
		t.Errorf("%d pieces", e.Work())
	}
	if got := e.Settle(); len(got) != 1 || got[0].Peer != 2 || len(e.Known(2)) != 2 {
		t.Errorf("%v, %v", got, e.Known(2))
	}
	e.Do(api.Item{Kind: api.Down, Peer: 2})
	if e.Known(2) != nil || !e.Quiet() {
		t.Error("what it was told is gone with it")
	}
}

// P27.1: rubbish from a peer.
func TestRubbish(t *testing.T) {
	e := begin(t)
	up(t, e, 0)
	up(t, e, 1)
	e.Do(inside(0x0c000000, 8, 3, 1))
	e.Do(feed(0, news(0, 0x0c000001, ten)))
	e.Settle()
	got := e.Do(feed(0, bytes.Repeat([]byte{7}, 100)))
	if len(got) != 1 || got[0].Peer != 0 || !bytes.Equal(got[0].Bytes, says(1, 1)) || e.Session(0) != session.Idle || e.State().Said != nil {
		t.Errorf("%v", got)
	}
	if e.Settle(); e.Locs() != nil || e.Known(1) != nil {
		t.Error("its routes are not gone")
	}
}

// P27.1: what locrib refuses ends the session, and what comes behind is not read.
func TestTooMany(t *testing.T) {
	e := begin(t)
	up(t, e, 0)
	var l []api.Prefix
	for i := range 100 {
		l = append(l, addr.Of(0x0a000000+uint32(i), 32))
	}
	e.Do(feed(0, news(0, 0x0c000001, l...)))
	for i := range l {
		l[i].Addr += 1000
	}
	got := e.Do(feed(0, news(0, 0x0c000001, l...), news(0, 0x0c000001, ten)))
	if len(got) != 1 || !bytes.Equal(got[0].Bytes, says(6, 1)) || e.Session(0) != session.Idle || e.State().Said != nil || e.State().IDs[0] != 0 {
		t.Errorf("%v", got)
	}
	e.Settle()
	up(t, e, 0)
}

// P27.1: the forwarding table.
func TestLoad(t *testing.T) {
	e := begin(t)
	e.Do(inside(0x0c000000, 9, 3, 1))
	e.Do(inside(0x0c800000, 9, 3, 1))
	e.Do(inside(0x0d000000, 8, 4, 1))
	e.Do(inside(0x0e000000, 8, 5, math.Inf(1)))
	for _, n := range []int{0, -1, math.MinInt} {
		if e.Do(api.Item{Kind: api.Load, N: n}); e.Table() != nil {
			t.Errorf("%d steps: %v", n, e.Table())
		}
	}
	want := spec.Table(config(), e.State())
	if e.Do(api.Item{Kind: api.Load, N: 1}); len(e.Table()) != 1 || e.Degraded() {
		t.Errorf("%v", e.Table())
	}
	e.Do(api.Item{Kind: api.Room, N: 1})
	e.Do(api.Item{Kind: api.Load, N: math.MaxInt})
	if len(e.Table()) != 1 || !e.Degraded() {
		t.Errorf("full: %v", e.Table())
	}
	e.Do(api.Item{Kind: api.Room, N: 2})
	e.Do(api.Item{Kind: api.Load, N: 5000})
	if !ortc.Alike(e.Table(), want) || len(e.Table()) != 2 || e.Degraded() {
		t.Errorf("%v", e.Table())
	}
	e.Do(api.Item{Kind: api.Gone, Way: api.Way{Prefix: addr.Of(0x0d000000, 8)}})
	e.Do(api.Item{Kind: api.Room, N: 9})
	e.Do(api.Item{Kind: api.Load, N: 9})
	if len(e.Table()) != 1 || len(e.State().Ways) != 3 {
		t.Errorf("%v", e.Table())
	}
	// A route that is reckoned goes ahead of a link of the inside.
	up(t, e, 0)
	e.Do(inside(0x0d000000, 8, 9, 1))
	e.Do(feed(0, news(0, 0x0d000001, addr.Of(0x0c000000, 9))))
	e.Do(api.Item{Kind: api.Load, N: 9})
	if !ortc.Alike(e.Table(), spec.Table(config(), spec.State{Ways: e.State().Ways})) {
		t.Errorf("Locs as they are: %v", e.Table())
	}
	e.Settle()
	e.Do(api.Item{Kind: api.Load, N: 9})
	if got := ortc.Find(e.Table(), 0x0c000000); !reflect.DeepEqual(got, []api.Hop{{Link: 9, Share: 16}}) {
		t.Errorf("%v", got)
	}
}

// R2: neither the Config nor an item is kept.
func TestMemory(t *testing.T) {
	c := config()
	e, _ := New(c)
	c.Peers[0].In[0].Prefix, c.Peers[2].AS = api.Prefix{}, own
	up(t, e, 0)
	up(t, e, 2)
	e.Do(inside(0x0c000000, 8, 3, 1))
	item := feed(0, news(0, 0x0c000001, ten))
	e.Do(item)
	clear(item.Bytes)
	e.Settle()
	if len(e.Known(2)) != 1 || len(e.Known(2)[0].Attrs.Path[0].AS) != 2 {
		t.Fatalf("%v", e.Known(2))
	}
	e.Known(2)[0].Attrs.Path[0].AS[0] = 9
	e.Locs()[0].Path.Attrs.Path[0].AS[0] = 9
	s := e.State()
	s.Said[0].Attrs.Path[0].AS[0], s.IDs[0], s.Ways[0].Link = 9, 9, 9
	if again := e.State(); again.Said[0].Attrs.Path[0].AS[0] != 65002 || again.IDs[0] != 100 || again.Ways[0].Link != 3 || e.Known(2)[0].Attrs.Path[0].AS[0] != own || e.Locs()[0].Path.Attrs.Path[0].AS[0] != 65002 {
		t.Error("memory is shared")
	}
}
