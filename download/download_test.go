package download

import (
	"math/rand"
	"reflect"
	"slices"
	"testing"

	"signpost/addr"
	"signpost/api"
	"signpost/ecmp"
	"signpost/fib"
	"signpost/ortc"
)

var (
	a = []api.Hop{{Link: 1, Share: 16}}
	b = []api.Hop{{Link: 2, Share: 16}}
	c = []api.Hop{{Link: 3, Share: 8}, {Link: 4, Share: 8}}
)

func entry(x uint32, n int, hops []api.Hop) api.Entry {
	return api.Entry{Prefix: addr.Of(x, n), Hops: hops}
}

func set(x uint32, n int, hops []api.Hop) Op { return Op{Entry: entry(x, n, hops)} }
func cut(x uint32, n int) Op                 { return Op{Cut: true, Entry: entry(x, n, nil)} }

func table(t *testing.T, room int, l ...api.Entry) *fib.Table {
	t.Helper()
	x, no := fib.New(room)
	for _, e := range l {
		no = max(no, x.Set(e))
	}
	if no != api.OK {
		t.Fatal(no)
	}
	return x
}

func load(t *testing.T, x *fib.Table) *Load {
	t.Helper()
	l, no := New(x)
	if no != api.OK || l.Left() != 0 || l.Degraded() {
		t.Fatalf("New: %v", no)
	}
	return l
}

// P26.1
func TestPlan(t *testing.T) {
	old := []api.Entry{entry(0, 0, a), entry(0x0a000000, 8, a), entry(0x0b000000, 8, b), entry(0x0c000000, 24, nil), entry(0x0d000000, 16, b)}
	to := []api.Entry{entry(0, 1, a), entry(0x0a000000, 8, b), entry(0x0a000000, 9, c), entry(0x0b000000, 8, b), entry(0x0c000000, 8, nil), entry(0x0e000000, 9, a)}
	want := []Op{set(0x0a000000, 9, c), set(0x0e000000, 9, a), set(0x0a000000, 8, b), set(0x0c000000, 8, nil), set(0, 1, a), cut(0, 0), cut(0x0d000000, 16), cut(0x0c000000, 24)}
	if got, no := Plan(old, to); no != api.OK || !reflect.DeepEqual(got, want) {
		t.Errorf("%v %v", got, no)
	}
	got, _ := Plan([]api.Entry{entry(0x0a000000, 8, a)}, []api.Entry{entry(0x0a000000, 9, a), entry(0x0a800000, 9, b)})
	if !reflect.DeepEqual(got, []Op{set(0x0a000000, 9, a), set(0x0a800000, 9, b), cut(0x0a000000, 8)}) {
		t.Errorf("%v", got)
	}
	if got, no := Plan(old, old); no != api.OK || len(got) != 0 {
		t.Errorf("the same: %v", got)
	}
	for _, bad := range [][]api.Entry{{{Prefix: api.Prefix{Addr: 1}}}, {entry(1, 32, a), entry(0, 32, a)}, {entry(0, 0, []api.Hop{{Link: 1}})}} {
		x, no := Plan(bad, old)
		y, wrong := Plan(old, bad)
		if x != nil || y != nil || no != api.ErrForm || wrong != api.ErrForm {
			t.Errorf("%v: %v %v", bad, no, wrong)
		}
	}
}

// P26.2
func TestLoad(t *testing.T) {
	if l, no := New(nil); l != nil || no != api.ErrArg {
		t.Errorf("New: %v", no)
	}
	x := table(t, 10, entry(0x0a000000, 8, a))
	l := load(t, x)
	if op, done, no := l.Step(); done || no != api.OK || !reflect.DeepEqual(op, Op{}) {
		t.Errorf("nothing is left: %v", op)
	}
	to := []api.Entry{entry(0x0a000000, 9, a), entry(0x0a800000, 9, b)}
	if l.Target([]api.Entry{entry(1, 32, a), entry(0, 32, a)}) != api.ErrForm || l.Left() != 0 || l.Target(to) != api.OK || l.Left() != 3 {
		t.Errorf("Target: %d left", l.Left())
	}
	for i, want := range []Op{set(0x0a000000, 9, a), set(0x0a800000, 9, b), cut(0x0a000000, 8)} {
		if op, done, no := l.Step(); !done || no != api.OK || !reflect.DeepEqual(op, want) || l.Left() != 2-i {
			t.Errorf("step %d: %v", i, op)
		}
	}
	if !reflect.DeepEqual(x.All(), to) || x.Writes() != 4 {
		t.Errorf("%v", x.All())
	}
	l.Target(nil)
	l.Step()
	if l.Target(to) != api.OK || l.Left() != 1 {
		t.Errorf("what the table has now: %d left", l.Left())
	}
	if l.Target([]api.Entry{{Prefix: api.Prefix{Len: 33}}}) != api.ErrForm || l.Left() != 1 {
		t.Error("a refused Target changes nothing")
	}
}

// P26.2
func TestDegraded(t *testing.T) {
	x := table(t, 2, entry(0x0a000000, 8, a))
	l := load(t, x)
	l.Target([]api.Entry{entry(0x0a000000, 9, a), entry(0x0a800000, 9, b)})
	l.Step()
	for range 2 {
		if op, done, no := l.Step(); done || no != api.ErrFull || !reflect.DeepEqual(op, set(0x0a800000, 9, b)) || !l.Degraded() || l.Left() != 2 {
			t.Errorf("full: %v %v", op, no)
		}
	}
	l.Target([]api.Entry{entry(0x0a000000, 9, a), entry(0x0a800000, 9, c)})
	if !l.Degraded() {
		t.Error("another Target, and still something is left")
	}
	if l.Target([]api.Entry{entry(0, 32, c), entry(0x0a000000, 8, a), entry(0x0a000000, 9, a)}); l.Left() != 1 || !l.Degraded() {
		t.Error("one is left")
	}
	l.Target([]api.Entry{entry(0x0a000000, 9, a), entry(0x0a800000, 9, c)})
	x.Room(3)
	if _, done, no := l.Step(); !done || no != api.OK || l.Degraded() {
		t.Errorf("room again: %v", no)
	}
	x.Room(0)
	l.Target([]api.Entry{entry(0, 0, a)})
	l.Step()
	if !l.Degraded() {
		t.Error("full again")
	}
	if l.Target(x.All()) != api.OK || l.Degraded() || l.Left() != 0 {
		t.Error("nothing is left")
	}
	l.Target([]api.Entry{entry(0, 0, a)})
	if l.Degraded() {
		t.Error("it was not refused since")
	}
}

func some(r *rand.Rand) []api.Entry {
	var l []api.Entry
	for i := range 16 {
		for n := range 5 {
			if p := addr.Of(uint32(i)<<28, n); p.Addr == uint32(i)<<28 && r.Intn(4) == 0 {
				l = append(l, api.Entry{Prefix: p, Hops: [][]api.Hop{nil, a, b, c}[r.Intn(4)]})
			}
		}
	}
	slices.SortFunc(l, func(x, y api.Entry) int {
		if addr.Less(x.Prefix, y.Prefix) {
			return -1
		}
		return 1
	})
	return l
}

// answers is what each sixteenth of the addresses finds.
func answers(l []api.Entry) [16][]api.Hop {
	var out [16][]api.Hop
	for i := range out {
		out[i] = ortc.Find(l, uint32(i)<<28|9)
	}
	return out
}

// P26.3 (W4): behind each write each address finds what it found in the table that was reached last, or in one that was a target since; a full table changes nothing of that.
func TestNeverWrong(t *testing.T) {
	r := rand.New(rand.NewSource(1))
	for range 1500 {
		x := table(t, 4096, some(r)...)
		l := load(t, x)
		may := [][16][]api.Hop{answers(x.All())}
		for range 4 {
			to := some(r)
			l.Target(to)
			may = append(may, answers(to))
			x.Room([]int{4096, 4096, len(to), 3}[r.Intn(4)])
			steps, refused := l.Left(), false
			if r.Intn(2) == 0 {
				steps = r.Intn(steps + 1)
			}
			for range steps {
				_, done, _ := l.Step()
				refused = refused || !done
				for i, got := range answers(x.All()) {
					if !slices.ContainsFunc(may, func(m [16][]api.Hop) bool { return ecmp.Same(m[i], got) }) {
						t.Fatalf("address %x0..: %v", i, got)
					}
				}
			}
			if !refused && l.Left() == 0 {
				if len(x.All()) != len(to) || !ortc.Alike(x.All(), to) {
					t.Fatalf("%v, not %v", x.All(), to)
				}
				may = [][16][]api.Hop{answers(to)}
			}
		}
	}
}

// R2
func TestMemory(t *testing.T) {
	x := table(t, 9)
	l := load(t, x)
	to := []api.Entry{entry(0, 0, []api.Hop{{Link: 1, Share: 16}}), entry(0, 1, []api.Hop{{Link: 2, Share: 16}})}
	l.Target(to)
	to[0].Hops[0].Link, to[1].Hops[0].Link = 9, 9
	op, _, _ := l.Step()
	op.Entry.Hops[0].Link = 9
	x.Room(0)
	op, _, _ = l.Step()
	op.Entry.Hops[0].Link = 9
	x.Room(2)
	l.Step()
	if got := x.All(); got[0].Hops[0].Link != 1 || got[1].Hops[0].Link != 2 {
		t.Errorf("%v", got)
	}
}
