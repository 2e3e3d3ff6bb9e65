package shell

import (
	"bytes"
	"math"
	"math/rand"
	"reflect"
	"testing"

	"signpost/addr"
	"signpost/api"
	"signpost/engine"
	"signpost/frame"
	"signpost/open"
	"signpost/spec"
	"signpost/update"
)

var ten = addr.Of(0x0a000000, 8)

func config() api.Config {
	return api.Config{AS: 65001, ID: 0x0a000001, Hold: 9, Width: 2, Depth: 2, Room: 9, Peers: []api.Peer{{AS: 65002, Addr: 0x0b000002}, {AS: 65003, Addr: 0x0b000003}}}
}

// all are items of each kind, with what each asks alone.
func all() []api.Item {
	return []api.Item{
		{Kind: api.Up, Peer: -1}, {Kind: api.Down, Peer: 1, N: math.MinInt32}, {Kind: api.Feed, Peer: math.MaxInt32, Bytes: []byte{1, 2, 3}}, {Kind: api.Feed},
		{Kind: api.Tick, N: 5}, {Kind: api.Inside, Way: api.Way{Prefix: ten, Direct: true, Link: 255, Cost: 1.5}}, {Kind: api.Inside, N: -2, Way: api.Way{Prefix: ten, Next: 0xfffefdfc, Cost: math.Inf(1)}},
		{Kind: api.Gone, Way: api.Way{Prefix: ten}}, {Kind: api.Pick, N: -1}, {Kind: api.Load, N: math.MaxInt32}, {Kind: api.Room, N: 0},
	}
}

func same(a, b api.Item) bool {
	return a.Kind == b.Kind && a.Peer == b.Peer && a.N == b.N && bytes.Equal(a.Bytes, b.Bytes) && reflect.DeepEqual(a.Way, b.Way)
}

// P28.1
func TestEncode(t *testing.T) {
	b, no := Encode([]api.Item{{Kind: api.Up, Peer: 1, N: -2, Bytes: []byte{7}, Way: api.Way{Link: 5}}, {Kind: api.Feed, Bytes: []byte{8, 9}}, {Kind: api.Gone, Way: api.Way{Prefix: ten, Link: 999}}})
	if want := []byte{1, 0, 0, 0, 1, 0xff, 0xff, 0xff, 0xfe, 3, 0, 0, 0, 0, 0, 0, 0, 0, 0, 2, 8, 9, 6, 0, 0, 0, 0, 0, 0, 0, 0, 10, 0, 0, 0, 8}; no != api.OK || !bytes.Equal(b, want) {
		t.Errorf("% x", b)
	}
	b, no = Encode([]api.Item{{Kind: api.Inside, Way: api.Way{Prefix: ten, Direct: true, Link: 3, Cost: 1}}, {Kind: api.Inside, Way: api.Way{Next: 5, Cost: math.Copysign(0, -1)}}})
	if want := []byte{5, 0, 0, 0, 0, 0, 0, 0, 0, 10, 0, 0, 0, 8, 1, 3, 0, 0, 0, 0, 0x3f, 0xf0, 0, 0, 0, 0, 0, 0, 5, 0, 0, 0, 0, 0, 0, 0, 0, 0, 0, 0, 0, 0, 0, 0, 0, 0, 0, 5, 0, 0, 0, 0, 0, 0, 0, 0}; no != api.OK || !bytes.Equal(b, want) {
		t.Errorf("% x", b)
	}
	if b, no := Encode(nil); no != api.OK || len(b) != 0 {
		t.Error("Encode of nothing")
	}
}

// P28.1
func TestRefusals(t *testing.T) {
	for i, x := range []api.Item{
		{}, {Kind: -1}, {Kind: 10}, {Kind: 257}, {Kind: api.Up, Peer: math.MaxInt32 + 1}, {Kind: api.Up, Peer: math.MinInt32 - 1}, {Kind: api.Pick, N: math.MaxInt}, {Kind: api.Pick, N: math.MinInt},
		{Kind: api.Feed, Bytes: make([]byte, 60001)}, {Kind: api.Inside, Way: api.Way{Link: 1}}, {Kind: api.Inside, Way: api.Way{Cost: math.NaN()}}, {Kind: api.Gone, Way: api.Way{Prefix: api.Prefix{Addr: 1}}},
	} {
		if b, no := Encode([]api.Item{{Kind: api.Up}, x}); no != api.ErrArg || b != nil {
			t.Errorf("case %d: %v", i, no)
		}
	}
	l := make([]api.Item, api.MaxScript+1)
	if b, no := Encode(l); no != api.ErrLong || b != nil {
		t.Errorf("ErrLong is first: %v", no)
	}
	for i := range l {
		l[i].Kind = api.Pick
	}
	b, no := Encode(l[:api.MaxScript])
	if no != api.OK || len(Decode(b)) != api.MaxScript || len(Decode(append(b, b...))) != api.MaxScript {
		t.Errorf("as many as may be: %v", no)
	}
	if b, no := Encode([]api.Item{{Kind: api.Feed, Bytes: make([]byte, 60000)}}); no != api.OK || len(Decode(b)) != 1 {
		t.Errorf("the longest Feed: %v", no)
	}
}

// P28.1
func TestDecode(t *testing.T) {
	if l := Decode(nil); len(l) != 0 {
		t.Errorf("%v", l)
	}
	pick := []byte{7, 0, 0, 0, 0, 0xff, 0xff, 0xff, 0xff}
	if l := Decode(append([]byte{0, 10, 255}, pick...)); len(l) != 1 || !same(l[0], api.Item{Kind: api.Pick, N: -1}) {
		t.Errorf("bytes that are no Kind: %v", l)
	}
	head := func(kind byte, more ...byte) []byte { return append([]byte{kind, 0, 0, 0, 0, 0, 0, 0, 0}, more...) }
	way := func(at int, x byte) []byte {
		b := head(5, 10, 0, 0, 0, 8, 1, 3, 0, 0, 0, 0, 0x3f, 0xf0, 0, 0, 0, 0, 0, 0)
		b[at] = x
		return b
	}
	for i, b := range [][]byte{{7}, pick[:8], head(3), head(3, 0), head(3, 0, 2, 1), head(6, 0, 0, 0, 0), way(9, 10)[:27]} {
		if l := Decode(append(bytes.Clone(pick), b...)); len(l) != 1 {
			t.Errorf("case %d, cut off: %v", i, l)
		}
	}
	for i, b := range [][]byte{append(head(3, 0xea, 0x61), make([]byte, 60001)...), head(6, 0, 0, 0, 1, 8), head(6, 0, 0, 0, 0, 33), way(13, 6), way(13, 33), way(14, 2), way(14, 255), way(14, 0), head(5, 10, 0, 0, 0, 8, 2, 0, 0, 0, 0, 0, 0, 0, 0, 0, 0, 0, 0, 0), way(18, 1), way(20, 0xff), way(20, 0xbf)} {
		if l := Decode(append(append(bytes.Clone(pick), b...), pick...)); len(l) != 1 {
			t.Errorf("case %d, wrong: %v", i, l)
		}
	}
	for i, b := range [][]byte{way(9, 10), way(20, 0x7f), append(head(3, 0xea, 0x60), make([]byte, 60000)...)} {
		if i == 1 {
			b[21] = 0xf0
		}
		if l := Decode(append(b, pick...)); len(l) != 2 {
			t.Errorf("case %d: %v", i, l)
		}
	}
	nought := way(20, 0x80)
	nought[21] = 0
	if l := Decode(nought); len(l) != 0 {
		t.Errorf("-0 is not what Bits writes: %v", l)
	}
}

// P28.4: Decode of Encode is the list, of each item what it asks.
func TestBack(t *testing.T) {
	r := rand.New(rand.NewSource(1))
	for range 500 {
		var l []api.Item
		for range r.Intn(50) {
			l = append(l, all()[r.Intn(len(all()))])
		}
		b, no := Encode(l)
		got := Decode(b)
		if no != api.OK || len(got) != len(l) {
			t.Fatalf("%v: %v", no, got)
		}
		for i := range l {
			if !same(got[i], l[i]) {
				t.Fatalf("%v, not %v", got[i], l[i])
			}
		}
	}
	x := api.Item{Kind: api.Tick, N: 3, Bytes: []byte{1}, Way: api.Way{Prefix: ten}}
	b, _ := Encode([]api.Item{x})
	if got := Decode(b); !same(got[0], api.Item{Kind: api.Tick, N: 3}) {
		t.Errorf("%v", got)
	}
}

func msg(kind int, body []byte) []byte {
	b, _ := frame.Join(kind, body)
	return b
}

// script brings a peer up that says one route.
func script() []api.Item {
	hello, _ := open.Encode(open.Hello{AS: 65002, Hold: 9, ID: 5})
	news, _ := update.Encode(api.Update{Has: true, Attrs: api.Attrs{Next: 0x0c000001, Path: []api.Seg{{Kind: api.Sequence, AS: []uint32{65002}}}}, NLRI: []api.Prefix{ten}})
	stream := bytes.Join([][]byte{msg(api.Open, hello), msg(api.Keepalive, nil), msg(api.UpdateMsg, news)}, nil)
	return []api.Item{
		{Kind: api.Inside, Way: api.Way{Prefix: addr.Of(0x0c000000, 8), Direct: true, Link: 3, Cost: 1}},
		{Kind: api.Up}, {Kind: api.Feed, Bytes: stream}, {Kind: api.Pick}, {Kind: api.Load, N: 9},
	}
}

// P28.2
func TestDo(t *testing.T) {
	if got := Do(config(), nil); got.Why != api.OK || got.Sent != nil || got.Locs != nil || got.Table != nil || !got.Quiet {
		t.Errorf("Do of nothing: %v", got)
	}
	c := config()
	c.Width = 0
	if got := Do(c, script()); !reflect.DeepEqual(got, Run{Why: api.ErrArg}) {
		t.Errorf("a Config that is refused: %v", got)
	}
	got := Do(config(), script())
	e, _ := engine.New(config())
	var sent []engine.Sent
	for _, i := range script() {
		sent = append(sent, e.Do(i)...)
	}
	want := Run{Sent: sent, Locs: e.Locs(), Table: e.Table(), Quiet: e.Quiet()}
	if !reflect.DeepEqual(got, want) || len(got.Locs) != 1 || len(got.Table) != 2 || !got.Quiet || len(got.Sent) != 2 {
		t.Errorf("%v, not %v", got, want)
	}
	if got := Do(config(), script()[:3]); got.Quiet || got.Locs != nil {
		t.Errorf("%v", got)
	}
	b, _ := Encode(script())
	if !reflect.DeepEqual(Bytes(config(), b), want) {
		t.Error("Bytes is Do of Decode")
	}
	long := make([]api.Item, api.MaxScript)
	if got := Do(config(), append(long, script()...)); got.Sent != nil || got.Table != nil {
		t.Error("more items than MaxScript")
	}
	if got := Do(config(), append(long[:api.MaxScript-5], script()...)); !reflect.DeepEqual(got, want) {
		t.Error("as many items as MaxScript")
	}
}

// P28.3
func TestText(t *testing.T) {
	if Text(nil) != "" {
		t.Error("Text of nothing")
	}
	l := []spec.Loc{
		{Prefix: ten, Path: api.Path{Peer: 12}, Hops: []api.Hop{{Link: 3, Share: 10}, {Link: 255, Share: 6}}},
		{Path: api.Path{Peer: -1}}, {Prefix: api.Prefix{Addr: 1}, Hops: []api.Hop{{Link: -7, Share: math.MinInt}}},
	}
	if got := Text(l); got != "10.0.0.0/8 12 3:10 255:6\n0.0.0.0/0 -1\n 0 -7:-9223372036854775808\n" {
		t.Errorf("%q", got)
	}
}

// P28.4 (W5), R1: every row of bytes is a script that runs.
func TestRubbish(t *testing.T) {
	r := rand.New(rand.NewSource(2))
	whole, _ := Encode(append(script(), all()...))
	for range 1500 {
		b := bytes.Clone(whole)
		for range 1 + r.Intn(6) {
			b[r.Intn(len(b))] = byte(r.Intn(256))
		}
		b = b[:r.Intn(len(b)+1)]
		if r.Intn(4) == 0 {
			r.Read(b)
		}
		got := Bytes(config(), b)
		if got.Why != api.OK || !reflect.DeepEqual(got, Bytes(config(), b)) {
			t.Fatalf("% x: %v", b, got)
		}
	}
}
