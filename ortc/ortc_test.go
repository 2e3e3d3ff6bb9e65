package ortc

import (
	"math"
	"math/rand"
	"reflect"
	"slices"
	"testing"

	"signpost/addr"
	"signpost/api"
	"signpost/ecmp"
)

var (
	a = []api.Hop{{Link: 1, Share: 16}}
	b = []api.Hop{{Link: 2, Share: 16}}
	c = []api.Hop{{Link: 1, Share: 8}, {Link: 2, Share: 8}}
)

func entry(x uint32, n int, hops []api.Hop) api.Entry {
	return api.Entry{Prefix: addr.Of(x, n), Hops: hops}
}

// wrong are tables that are not right.
func wrong() [][]api.Entry {
	var many []api.Entry
	for i := range api.MaxRoom + 1 {
		many = append(many, entry(uint32(i), 32, a))
	}
	var row []api.Hop
	for i := range 17 {
		row = append(row, api.Hop{Link: i, Share: 1})
	}
	out := [][]api.Entry{
		many, {entry(2, 32, a), entry(1, 32, a)}, {entry(1, 32, a), entry(1, 32, b)}, {entry(0, 8, a), entry(0, 7, a)},
		{{Prefix: api.Prefix{Addr: 1}}}, {{Prefix: api.Prefix{Len: 33}}}, {entry(0, 0, row)},
	}
	for _, hops := range [][]api.Hop{{{Link: -1, Share: 1}}, {{Link: 256, Share: 1}}, {{Link: 1, Share: 0}}, {{Link: 1, Share: 17}}, {{Link: 1, Share: -1}}, {{Link: 2, Share: 1}, {Link: 1, Share: 1}}, {{Link: 1, Share: 1}, {Link: 1, Share: 1}}, {{Link: math.MinInt, Share: math.MaxInt}}} {
		out = append(out, []api.Entry{entry(0, 0, hops)})
	}
	return out
}

// P24.1
func TestRight(t *testing.T) {
	var row []api.Hop
	for i := range 16 {
		row = append(row, api.Hop{Link: 240 + i, Share: i + 1})
	}
	most := slices.Clone(wrong()[0][:api.MaxRoom])
	for i, l := range [][]api.Entry{nil, {}, {entry(0, 0, nil)}, {entry(0, 0, row)}, {entry(0, 0, []api.Hop{{Link: 0, Share: 1}})}, {entry(0, 0, a), entry(0, 1, a), entry(1<<31, 1, c)}, most} {
		if !Right(l) {
			t.Errorf("case %d is right", i)
		}
	}
	for i, l := range wrong() {
		if Right(l) || Less(l) != nil || Least(l) != 0 || Find(l, 0) != nil || Alike(l, l) || Alike(nil, l) || Alike(l, nil) {
			t.Errorf("case %d is not right", i)
		}
	}
	if got := Less(most); !Alike(got, most) || len(got) >= len(most) {
		t.Errorf("%d entries", len(got))
	}
}

// P24.1
func TestFind(t *testing.T) {
	l := []api.Entry{entry(0x0a000000, 8, a), entry(0x0a010000, 16, b), entry(0x0a010200, 24, nil)}
	for x, want := range map[uint32][]api.Hop{0x0a000000: a, 0x0affffff: a, 0x0a010101: b, 0x0a010201: nil, 0x0b000000: nil} {
		if got := Find(l, x); !ecmp.Same(got, want) {
			t.Errorf("%x: %v", x, got)
		}
	}
	got := Find(l, 0x0a000000)
	got[0].Link = 9
	if a[0].Link != 1 {
		t.Error("R2: memory is shared")
	}
}

// P24.2
func TestLess(t *testing.T) {
	for i, x := range []struct {
		l    []api.Entry
		want int
	}{
		{nil, 0}, {[]api.Entry{entry(0, 0, nil)}, 0}, {[]api.Entry{entry(0x0a000000, 8, nil), entry(0x0a000000, 9, nil)}, 0},
		{[]api.Entry{entry(0x0a000000, 9, a), entry(0x0a800000, 9, a)}, 1}, {[]api.Entry{entry(0x0a000000, 8, a), entry(0x0a010000, 16, a)}, 1},
		{[]api.Entry{entry(0, 1, a), entry(0x0a000000, 8, nil), entry(1<<31, 1, a)}, 2},
		{[]api.Entry{entry(0, 2, a), entry(1<<30, 2, b), entry(2<<30, 2, a), entry(3<<30, 2, a)}, 2},
		{[]api.Entry{entry(0, 2, a), entry(1<<30, 2, a), entry(2<<30, 2, a)}, 2},
		{[]api.Entry{entry(0xffffffff, 32, a)}, 1}, {[]api.Entry{entry(0xfffffffe, 32, a), entry(0xffffffff, 32, a)}, 1},
	} {
		got := Less(x.l)
		if len(got) != x.want || Least(x.l) != x.want || !Alike(got, x.l) || !Right(got) {
			t.Errorf("case %d: %v", i, got)
		}
	}
	if got := Less([]api.Entry{entry(0x0a000000, 9, a), entry(0x0a800000, 9, a)}); !reflect.DeepEqual(got, []api.Entry{entry(0x0a000000, 8, a)}) {
		t.Errorf("%v", got)
	}
}

// small answers the table in which the digits of n say what the seven prefixes of up to two bits have: no entry, or hops.
func small(n int, hops [][]api.Hop) []api.Entry {
	var l []api.Entry
	for _, p := range []api.Prefix{addr.Of(0, 0), addr.Of(0, 1), addr.Of(0, 2), addr.Of(1<<30, 2), addr.Of(2<<30, 1), addr.Of(2<<30, 2), addr.Of(3<<30, 2)} {
		if n%4 > 0 {
			l = append(l, api.Entry{Prefix: p, Hops: hops[n%4-1]})
		}
		n /= 4
	}
	return l
}

// P24.2: of all tables of up to two bits none is smaller.
func TestNoneIsSmaller(t *testing.T) {
	hops := [][]api.Hop{nil, a, b}
	least := map[[4]int]int{}
	answers := func(l []api.Entry) [4]int {
		var out [4]int
		for i := range out {
			if h := Find(l, uint32(i)<<30|5); len(h) > 0 {
				out[i] = h[0].Link
			}
		}
		return out
	}
	const tables = 1 << 14
	for n := range tables {
		l := small(n, hops)
		key := answers(l)
		if old, seen := least[key]; !seen || len(l) < old {
			least[key] = len(l)
		}
	}
	for n := range tables {
		l := small(n, hops)
		if got := Less(l); len(got) != least[answers(l)] || !Right(got) || answers(got) != answers(l) {
			t.Fatalf("%v: %v", l, got)
		}
	}
}

// some answers a table at random, with prefixes that lie close.
func some(r *rand.Rand, deep int) []api.Entry {
	var l []api.Entry
	base, from := uint32(r.Intn(256))<<24, r.Intn(33-deep)
	for range r.Intn(40) {
		p := addr.Of(base&addr.Mask(from)|uint32(r.Intn(1<<deep))<<(32-deep)>>from, from+r.Intn(deep+1))
		if !slices.ContainsFunc(l, func(e api.Entry) bool { return e.Prefix == p }) {
			l = append(l, api.Entry{Prefix: p, Hops: [][]api.Hop{nil, a, b, c}[r.Intn(4)]})
		}
	}
	slices.SortFunc(l, func(x, y api.Entry) int {
		if addr.Less(x.Prefix, y.Prefix) {
			return -1
		}
		return 1
	})
	return l
}

// plain reckons how many entries are needed below prefixes, by what comes down to them.
type plain struct {
	l     []api.Entry
	known map[place]int
}

type place struct {
	p    api.Prefix
	kind int
}

var hopsOf = [][]api.Hop{nil, a, b, c}

func (x *plain) fewest(p api.Prefix, kind int) int {
	if n, ok := x.known[place{p, kind}]; ok {
		return n
	}
	n := x.inside(p, kind)
	for k := range hopsOf {
		n = min(n, 1+x.inside(p, k))
	}
	x.known[place{p, kind}] = n
	return n
}

// inside is fewest without an entry of p itself.
func (x *plain) inside(p api.Prefix, kind int) int {
	if slices.ContainsFunc(x.l, func(e api.Entry) bool { return addr.Covers(p, e.Prefix) && e.Prefix != p }) {
		low, _ := addr.Half(p, false)
		high, _ := addr.Half(p, true)
		return x.fewest(low, kind) + x.fewest(high, kind)
	}
	if ecmp.Same(hopsOf[kind], Find(x.l, p.Addr)) {
		return 0
	}
	return 1 << 20
}

// P24.2
func TestAgainstPlain(t *testing.T) {
	r := rand.New(rand.NewSource(1))
	for range 400 {
		l := some(r, 5)
		x := &plain{l: l, known: map[place]int{}}
		if got, want := Less(l), x.fewest(api.Prefix{}, 0); len(got) != want {
			t.Fatalf("%v: %v, not %d", l, got, want)
		}
	}
	for range 1000 {
		l := some(r, 6)
		got := Less(l)
		if !Right(got) || !Alike(got, l) || len(got) > len(l) || !reflect.DeepEqual(got, Less(l)) || Least(got) != len(got) {
			t.Fatalf("%v: %v", l, got)
		}
		for _, e := range l {
			for _, x := range []uint32{e.Prefix.Addr, e.Prefix.Addr - 1, e.Prefix.Addr | ^addr.Mask(e.Prefix.Len), r.Uint32()} {
				if !ecmp.Same(Find(l, x), Find(got, x)) {
					t.Fatalf("%x in %v and %v", x, l, got)
				}
			}
		}
	}
}

// P24.2
func TestAlike(t *testing.T) {
	l := []api.Entry{entry(0x0a000000, 8, a), entry(0x0a010203, 32, b)}
	for i, x := range []struct {
		l    []api.Entry
		want bool
	}{
		{l, true}, {l[:1], false}, {l[1:], false}, {nil, false},
		{[]api.Entry{entry(0, 0, nil), entry(0x0a000000, 8, a), entry(0x0a010000, 16, a), entry(0x0a010203, 32, b)}, true},
		{[]api.Entry{entry(0x0a000000, 9, a), entry(0x0a010203, 32, b), entry(0x0a800000, 9, a)}, true},
		{[]api.Entry{entry(0x0a000000, 9, a), entry(0x0a010203, 32, c), entry(0x0a800000, 9, a)}, false},
		{[]api.Entry{entry(0x0a000000, 8, a), entry(0x0a010203, 32, b), entry(0xffffffff, 32, b)}, false},
		{[]api.Entry{entry(0x0a000000, 8, a), entry(0x0a010203, 32, b), entry(0xffffffff, 32, nil)}, true},
	} {
		if Alike(l, x.l) != x.want || Alike(x.l, l) != x.want {
			t.Errorf("case %d", i)
		}
	}
	if !Alike(nil, nil) {
		t.Error("two empty tables")
	}
}

// R2
func TestMemory(t *testing.T) {
	l := []api.Entry{entry(0, 1, c), entry(2<<30, 2, a), entry(3<<30, 2, c)}
	got := Less(l)
	for i := range got {
		for k := range got[i].Hops {
			got[i].Hops[k].Link = 99
		}
	}
	if l[0].Hops[0].Link != 1 || !Alike(Less(l), l) {
		t.Error("memory is shared")
	}
}
