package trie

import (
	"math/rand"
	"slices"
	"testing"

	"signpost/addr"
	"signpost/api"
)

var wrong = []api.Prefix{{Addr: 1}, {Len: -1}, {Len: 33}, {Addr: 0x0a000001, Len: 8}}

// P3.1
func TestEmpty(t *testing.T) {
	x := New()
	if p, v, ok := x.Match(0x0a000000); ok || v != 0 || p != (api.Prefix{}) {
		t.Error("Match")
	}
	all := api.Prefix{}
	if _, ok := x.Get(all); ok || x.Cut(all) || x.Len() != 0 || len(x.All())+len(x.Above(all))+len(x.Below(all)) != 0 {
		t.Error("an empty Trie has something")
	}
}

// P3.1
func TestPutAgainAndCut(t *testing.T) {
	x := New()
	p := addr.Of(0x0a000000, 8)
	if !x.Put(p, 5) || x.Put(p, 6) {
		t.Error("Put tells wrong")
	}
	if v, ok := x.Get(p); v != 6 || !ok || x.Len() != 1 {
		t.Errorf("Get: %d, %d", v, x.Len())
	}
	if !x.Cut(p) || x.Cut(p) || x.Len() != 0 {
		t.Error("Cut tells wrong")
	}
	if !x.Put(p, 0) {
		t.Error("it had none any more")
	}
}

// P3.1
func TestLongestMatch(t *testing.T) {
	x := New()
	x.Put(addr.Of(0x0a000000, 8), 1)
	x.Put(addr.Of(0x0a010000, 16), 2)
	for a, want := range map[uint32]api.Prefix{0x0a010203: addr.Of(0x0a010000, 16), 0x0a020203: addr.Of(0x0a000000, 8)} {
		if p, _, ok := x.Match(a); p != want || !ok {
			t.Errorf("Match(%x): %v", a, p)
		}
	}
	if _, _, ok := x.Match(0x0b000000); ok {
		t.Error("nothing has 11.0.0.0")
	}
	x.Put(addr.Of(0xffffffff, 32), 3)
	x.Put(addr.Of(0, 0), -4)
	if p, v, _ := x.Match(0xffffffff); p.Len != 32 || v != 3 {
		t.Error("one address")
	}
	if p, v, _ := x.Match(0xfffffffe); p.Len != 0 || v != -4 {
		t.Error("all addresses")
	}
}

// P3.1
func TestWrongPrefixes(t *testing.T) {
	x := New()
	x.Put(api.Prefix{}, 7)
	for _, p := range wrong {
		_, ok := x.Get(p)
		if x.Put(p, 1) || x.Cut(p) || ok || x.Above(p) != nil || x.Below(p) != nil || x.Len() != 1 {
			t.Errorf("%v passes for a prefix", p)
		}
	}
}

// near picks prefixes that often cover one another.
func near(r *rand.Rand) api.Prefix {
	return addr.Of([]uint32{0, 0xffffffff, 0xaaaaaaaa}[r.Intn(3)]^uint32(r.Intn(16))<<r.Intn(29), r.Intn(33))
}

// P3.1: held against a plain map.
func TestAgainstMap(t *testing.T) {
	r := rand.New(rand.NewSource(1))
	x, model := New(), map[api.Prefix]int{}
	for i := range 30000 {
		p, q := near(r), near(r)
		_, had := model[p]
		switch r.Intn(2) {
		case 0:
			if x.Put(p, i) == had {
				t.Fatalf("Put(%v)", p)
			}
			model[p] = i
		case 1:
			if x.Cut(p) != had {
				t.Fatalf("Cut(%v)", p)
			}
			delete(model, p)
		}
		if i%50 == 0 {
			compare(t, x, model, q)
		}
	}
}

func compare(t *testing.T, x *Trie, model map[api.Prefix]int, q api.Prefix) {
	t.Helper()
	var all, above, below []api.Prefix
	for p := range model {
		all = append(all, p)
	}
	slices.SortFunc(all, func(a, b api.Prefix) int {
		if addr.Less(a, b) {
			return -1
		}
		return 1
	})
	longest := api.Prefix{Len: -1}
	for _, p := range all {
		if addr.Covers(p, q) {
			above = append(above, p)
		}
		if addr.Covers(q, p) {
			below = append(below, p)
		}
		if addr.Has(p, q.Addr) && p.Len > longest.Len {
			longest = p
		}
	}
	if !slices.Equal(x.All(), all) || !slices.Equal(x.Above(q), above) || !slices.Equal(x.Below(q), below) || x.Len() != len(all) {
		t.Fatalf("lists for %v differ", q)
	}
	p, v, ok := x.Match(q.Addr)
	if ok != (longest.Len >= 0) || ok && (p != longest || v != model[p]) {
		t.Fatalf("Match(%x): %v, not %v", q.Addr, p, longest)
	}
	w, has := x.Get(q)
	if m, is := model[q]; w != m || has != is {
		t.Fatalf("Get(%v): %d", q, w)
	}
}

// P3.1: what is cut leaves nothing behind.
func TestNothingIsLeft(t *testing.T) {
	x := New()
	r := rand.New(rand.NewSource(2))
	var l []api.Prefix
	for range 500 {
		p := near(r)
		x.Put(p, 1)
		l = append(l, p)
	}
	for _, p := range l {
		x.Cut(p)
	}
	if x.Len() != 0 || x.root.kids[0] != nil || x.root.kids[1] != nil {
		t.Error("nodes are left")
	}
}

// R2: an answer is new memory.
func TestAnswersAreNew(t *testing.T) {
	x := New()
	for n := range 5 {
		x.Put(addr.Of(0, n), n)
	}
	l := x.All()
	_ = append(l[:1], api.Prefix{Len: 9}, api.Prefix{Len: 9})
	if got := x.All(); got[1].Len != 1 || got[2].Len != 2 {
		t.Error("the answer is the Trie's own memory")
	}
}
