package session

import (
	"bytes"
	"math/rand"
	"reflect"
	"testing"

	"signpost/addr"
	"signpost/api"
	"signpost/attr"
	"signpost/frame"
	"signpost/open"
	"signpost/update"
)

const (
	own   = 65001
	other = 65002
)

func begin(t *testing.T, hold int, peer uint32) *Session {
	t.Helper()
	s, no := New(own, 0x0a000001, hold, peer)
	if no != api.OK || s.State() != Idle {
		t.Fatalf("New: %v", no)
	}
	return s
}

func msg(kind int, body []byte) []byte {
	b, _ := frame.Join(kind, body)
	return b
}

func hello(as, hold int) []byte {
	body, _ := open.Encode(open.Hello{AS: as, Hold: hold, ID: 7})
	return msg(api.Open, body)
}

var (
	alive = msg(api.Keepalive, nil)
	bye   = msg(api.Notification, []byte{6, 0})
)

func says(code, sub int, data ...byte) []byte {
	return msg(api.Notification, append([]byte{byte(code), byte(sub)}, data...))
}

// news is an UPDATE with a path that begins with as.
func news(as uint32) []byte {
	body, _ := update.Encode(api.Update{Has: true, Attrs: api.Attrs{Path: []api.Seg{{Kind: 2, AS: []uint32{as}}}, Next: 0x0b000001, HasPref: true, Pref: 5}, NLRI: []api.Prefix{addr.Of(0x0a000000, 8)}})
	return msg(api.UpdateMsg, body)
}

// at answers a Session in that state.
func at(t *testing.T, state, hold int, peer uint32) *Session {
	t.Helper()
	s := begin(t, hold, peer)
	if state > Idle {
		s.Up()
	}
	if state > OpenSent {
		s.Feed(hello(int(peer), hold))
	}
	if state > OpenConfirm {
		s.Feed(alive)
	}
	if s.State() != state {
		t.Fatalf("state %d, not %d", s.State(), state)
	}
	return s
}

// P12.1
func TestNew(t *testing.T) {
	for i, c := range []struct {
		as, id uint32
		hold   int
		peer   uint32
	}{{0, 1, 9, 1}, {65536, 1, 9, 1}, {1, 0, 9, 1}, {1, 1, 1, 1}, {1, 1, 2, 1}, {1, 1, -1, 1}, {1, 1, 65536, 1}, {1, 1, 9, 0}, {1, 1, 9, 65536}, {1 << 31, 1, 9, 1}} {
		if s, no := New(c.as, c.id, c.hold, c.peer); s != nil || no != api.ErrArg {
			t.Errorf("case %d: %v", i, no)
		}
	}
	for _, as := range []uint32{1, 65535} {
		if s, no := New(as, 1, 3, as); no != api.OK || !s.Inner() {
			t.Errorf("AS %d: %v", as, no)
		}
	}
	if Idle != 1 || OpenSent != 2 || OpenConfirm != 3 || Established != 4 || Opened != 1 || Closed != 2 || Got != 3 {
		t.Error("the numbers of states and events")
	}
	if begin(t, 0, own).Inner() != true || begin(t, 65535, other).Inner() != false || begin(t, 3, other).ID() != 0 {
		t.Error("Inner, ID")
	}
}

// P12.1
func TestIdle(t *testing.T) {
	s := begin(t, 9, other)
	for _, call := range []func() ([]byte, []Event){s.Tick, func() ([]byte, []Event) { return s.Feed(hello(other, 9)) }, func() ([]byte, []Event) { return s.Down(api.Note{Code: 6}) }} {
		if b, e := call(); b != nil || e != nil || s.State() != Idle {
			t.Error("Idle does something")
		}
	}
	if b := s.Up(); !bytes.Equal(b, msg(api.Open, []byte{4, 0xfd, 0xe9, 0, 9, 10, 0, 0, 1, 0})) || s.State() != OpenSent {
		t.Errorf("Up: % x", b)
	}
	if b := s.Up(); b != nil || s.State() != OpenSent {
		t.Error("Up twice")
	}
}

// P12.1: two Sessions, Up, carried to one another.
func TestTwo(t *testing.T) {
	a, b := begin(t, 9, other), (*Session)(nil)
	b, _ = New(other, 0x0a000002, 30, own)
	toB, toA := a.Up(), b.Up()
	var told []Event
	for len(toA)+len(toB) > 0 {
		x, e := b.Feed(toB)
		y, f := a.Feed(toA)
		toA, toB, told = x, y, append(append(told, e...), f...)
	}
	if a.State() != Established || b.State() != Established || a.ID() != 0x0a000002 || b.ID() != 0x0a000001 || len(told) != 2 || told[0].Kind != Opened || told[1].Kind != Opened {
		t.Errorf("%d %d %v", a.State(), b.State(), told)
	}
}

// P12.1: each message in each state.
func TestMessages(t *testing.T) {
	short := hello(other, 9)
	short[19] = 3
	cut := msg(api.UpdateMsg, []byte{0, 0, 0, 9})
	for i, c := range []struct {
		state int
		in    []byte
		to    int
		out   []byte
		told  []int
	}{
		{OpenSent, hello(other, 9), OpenConfirm, alive, nil}, {OpenSent, hello(own, 9), Idle, says(2, 2), nil}, {OpenSent, short, Idle, says(2, 1, 0, 4), nil},
		{OpenSent, alive, Idle, says(5, 0), nil}, {OpenSent, news(other), Idle, says(5, 0), nil}, {OpenSent, bye, Idle, nil, nil},
		{OpenConfirm, alive, Established, nil, []int{Opened}}, {OpenConfirm, hello(other, 9), Idle, says(5, 0), nil}, {OpenConfirm, news(other), Idle, says(5, 0), nil}, {OpenConfirm, bye, Idle, nil, nil},
		{Established, alive, Established, nil, nil}, {Established, news(other), Established, nil, []int{Got}}, {Established, hello(other, 9), Idle, says(5, 0), []int{Closed}}, {Established, bye, Idle, nil, []int{Closed}},
		{Established, news(own), Idle, says(3, 11), []int{Closed}}, {Established, cut, Idle, says(3, 1), []int{Closed}}, {Established, make([]byte, 19), Idle, says(1, 1), []int{Closed}},
		{OpenSent, append(bytes.Clone(alive[:18]), 9), Idle, says(1, 3, 9), nil},
		{Established, append(bytes.Clone(bye), alive...), Idle, nil, []int{Closed}},
		{Established, append(append(bytes.Clone(alive), news(other)...), alive[:18]...), Established, nil, []int{Got}},
	} {
		s := at(t, c.state, 9, other)
		b, events := s.Feed(c.in)
		var told []int
		for _, e := range events {
			told = append(told, e.Kind)
		}
		if !bytes.Equal(b, c.out) || s.State() != c.to || !reflect.DeepEqual(told, c.told) || (s.ID() == 7) != (c.to > OpenSent) {
			t.Errorf("case %d: % x, state %d, %v, ID %d", i, b, s.State(), told, s.ID())
		}
	}
}

// P12.1: outside a path must begin with the neighbour's AS; inside it need not.
func TestFirstAS(t *testing.T) {
	body, _ := update.Encode(api.Update{Has: true, Attrs: api.Attrs{Next: 0x0b000001, HasPref: true}, NLRI: []api.Prefix{{}}})
	if b, _ := at(t, Established, 9, other).Feed(msg(api.UpdateMsg, body)); !bytes.Equal(b, says(3, 11)) {
		t.Errorf("% x", b)
	}
	s := at(t, Established, 9, own)
	b, e := s.Feed(msg(api.UpdateMsg, body))
	if b != nil || len(e) != 1 || e[0].Kind != Got || !e[0].Update.Has || !e[0].Update.Attrs.HasPref || len(e[0].Update.NLRI) != 1 {
		t.Errorf("% x %v", b, e)
	}
	body, _ = update.Encode(api.Update{Withdrawn: []api.Prefix{{}}})
	if b, e := at(t, Established, 9, other).Feed(msg(api.UpdateMsg, body)); b != nil || len(e) != 1 || len(e[0].Update.Withdrawn) != 1 {
		t.Errorf("% x %v", b, e)
	}
}

// P12.1
func TestDown(t *testing.T) {
	s := at(t, Established, 9, other)
	s.Feed(alive[:5])
	b, e := s.Down(api.Note{Code: 6, Sub: 4, Data: bytes.Repeat([]byte{8}, 5000)})
	if len(b) != api.MaxMsg || !bytes.Equal(b, says(6, 4, bytes.Repeat([]byte{8}, 4075)...)) || len(e) != 1 || e[0].Kind != Closed || s.State() != Idle || s.ID() != 0 {
		t.Errorf("%d bytes, %v", len(b), e)
	}
	s.Up()
	if b, _ := s.Feed(hello(other, 9)); !bytes.Equal(b, alive) {
		t.Error("what was fed and not read is not gone")
	}
	if b, e := s.Down(api.Note{}); b != nil || e != nil || s.State() != Idle {
		t.Error("without a Code nothing is sent")
	}
}

// P12.2
func TestHoldTime(t *testing.T) {
	s := at(t, Established, 9, other)
	for tick := 1; tick <= 9; tick++ {
		b, e := s.Tick()
		switch {
		case tick == 9 && (!bytes.Equal(b, says(4, 0)) || len(e) != 1 || e[0].Kind != Closed || s.State() != Idle),
			tick != 9 && tick%3 == 0 && !bytes.Equal(b, alive),
			tick%3 != 0 && b != nil:
			t.Errorf("tick %d: % x %v", tick, b, e)
		}
	}
	for _, in := range [][]byte{alive, news(other)} {
		s = at(t, Established, 9, other)
		for range 5 {
			for range 8 {
				s.Tick()
			}
			s.Feed(in)
		}
		if s.State() != Established {
			t.Error("something was read in time")
		}
	}
	s = at(t, OpenConfirm, 4, other)
	for tick := 1; tick <= 4; tick++ {
		if b, e := s.Tick(); tick < 4 && !bytes.Equal(b, alive) || tick == 4 && !bytes.Equal(b, says(4, 0)) || e != nil {
			t.Errorf("OpenConfirm, tick %d: % x", tick, b)
		}
	}
}

// P12.2: the ticks are counted anew when OpenConfirm begins, and when a KEEPALIVE is read in it.
func TestCountedAnew(t *testing.T) {
	s := at(t, OpenSent, 9, other)
	for range 8 {
		s.Tick()
	}
	for _, in := range [][]byte{hello(other, 9), alive} {
		s.Feed(in)
		for range 8 {
			if s.Tick(); s.State() == Idle {
				t.Fatalf("% x", in)
			}
		}
	}
	if s.Tick(); s.State() != Idle {
		t.Error("it is the hold time")
	}
}

// P12.2: the less of both Holds; 0: none.
func TestLimits(t *testing.T) {
	for _, c := range [][3]int{{9, 30, 9}, {30, 9, 9}, {0, 9, 0}, {9, 0, 0}, {0, 0, 0}} {
		s := begin(t, c[0], other)
		s.Up()
		s.Feed(append(hello(other, c[1]), alive...))
		n := 0
		for s.State() == Established && n < 100 {
			if b, _ := s.Tick(); c[2] == 0 && b != nil {
				t.Error("without a hold time a KEEPALIVE is sent")
			}
			n++
		}
		if c[2] == 0 && n != 100 || c[2] != 0 && n != c[2] {
			t.Errorf("%v: %d ticks", c, n)
		}
	}
}

// P12.2: 240 ticks for an OPEN, since Up.
func TestOpenTicks(t *testing.T) {
	s := begin(t, 9, other)
	for range 2 {
		s.Up()
		s.Feed(alive[:18])
		for tick := 1; tick <= 240; tick++ {
			b, e := s.Tick()
			if tick < 240 && b != nil || tick == 240 && !bytes.Equal(b, says(4, 0)) || e != nil {
				t.Fatalf("tick %d: % x", tick, b)
			}
		}
		if s.State() != Idle {
			t.Error("it is not Idle")
		}
	}
}

// P12.3: in whatever pieces bytes come.
func TestPieces(t *testing.T) {
	r := rand.New(rand.NewSource(1))
	parts := [][]byte{alive, news(other), news(own), hello(other, 9), bye, alive, news(other), msg(api.UpdateMsg, []byte{0, 0, 0, 0}), {1, 2, 3}, alive, alive}
	for range 2000 {
		stream := append(hello(other, 9), alive...)
		for range r.Intn(6) {
			stream = append(stream, parts[r.Intn(len(parts))]...)
		}
		if r.Intn(3) == 0 {
			stream[r.Intn(len(stream))] ^= 1 << r.Intn(8)
		}
		a, b := begin(t, 9, other), begin(t, 9, other)
		a.Up()
		b.Up()
		sent, told := a.Feed(stream)
		var sent2 []byte
		var told2 []Event
		for k := 0; k < len(stream); {
			n := min(1+r.Intn(30), len(stream)-k)
			piece := bytes.Clone(stream[k : k+n])
			x, e := b.Feed(piece)
			clear(piece) // R2: it is not kept
			sent2, told2, k = append(sent2, x...), append(told2, e...), k+n
		}
		if !bytes.Equal(sent, sent2) || a.State() != b.State() || a.ID() != b.ID() || len(told) != len(told2) {
			t.Fatalf("% x: % x, % x", stream, sent, sent2)
		}
		for i := range told {
			if told[i].Kind != told2[i].Kind || !attr.Same(told[i].Update.Attrs, told2[i].Update.Attrs) {
				t.Fatalf("event %d", i)
			}
		}
	}
}
