package adjin

import (
	"math"
	"math/rand"
	"slices"
	"testing"

	"signpost/addr"
	"signpost/api"
	"signpost/attr"
	"signpost/policy"
)

const own = 65001

func config() api.Config {
	return api.Config{AS: own, ID: 0x0a000001, Hold: 9, Width: 1, Depth: 1, Peers: []api.Peer{
		{AS: 65002, Addr: 0x0a000002, In: []api.Rule{{Prefix: addr.Of(0x0c000000, 8), To: 32, Reject: true}, {To: 32, SetPref: true, Pref: 7, Prepend: 1}}},
		{AS: own, Addr: 0x0a000003},
	}}
}

func table(t *testing.T) *In {
	t.Helper()
	n, no := New(config())
	if no != api.OK {
		t.Fatalf("New: %v", no)
	}
	return n
}

func with(next uint32, as ...uint32) api.Attrs {
	a := api.Attrs{Next: 0x0b000000 + next}
	if len(as) > 0 {
		a.Path = []api.Seg{{Kind: api.Sequence, AS: as}}
	}
	return a
}

func says(a api.Attrs, l ...api.Prefix) api.Update { return api.Update{Has: true, Attrs: a, NLRI: l} }
func takes(l ...api.Prefix) api.Update             { return api.Update{Withdrawn: l} }
func nth(i int) api.Prefix                         { return addr.Of(0x0a000000+uint32(i)<<8, 24) }

// P14.1
func TestCheck(t *testing.T) {
	for i, c := range []struct {
		turn func(*api.Config)
		want api.Errno
	}{
		{func(c *api.Config) {}, api.OK}, {func(c *api.Config) { c.Hold, c.Width, c.Depth, c.Room = 0, 8, 8, 4096 }, api.OK}, {func(c *api.Config) { c.Hold, c.AS = 65535, 1 }, api.OK}, {func(c *api.Config) { c.Hold, c.AS = 3, 65535 }, api.OK}, {func(c *api.Config) { c.Peers = c.Peers[:1] }, api.OK},
		{func(c *api.Config) {
			c.Peers = append(c.Peers, api.Peer{AS: 1, Addr: 1 << 24}, api.Peer{AS: 65535, Addr: 2 << 24})
		}, api.OK},
		{func(c *api.Config) { c.AS = 0; c.Peers = nil }, api.ErrArg}, {func(c *api.Config) { c.AS = 65536 }, api.ErrArg}, {func(c *api.Config) { c.ID = 0 }, api.ErrArg}, {func(c *api.Config) { c.ID = 0xe0000000 }, api.ErrArg},
		{func(c *api.Config) { c.Hold = 2 }, api.ErrArg}, {func(c *api.Config) { c.Hold = -1 }, api.ErrArg}, {func(c *api.Config) { c.Hold = 65536 }, api.ErrArg},
		{func(c *api.Config) { c.Width = 0 }, api.ErrArg}, {func(c *api.Config) { c.Width = 9 }, api.ErrArg}, {func(c *api.Config) { c.Depth = 0 }, api.ErrArg}, {func(c *api.Config) { c.Depth = 9 }, api.ErrArg},
		{func(c *api.Config) { c.Room = -1 }, api.ErrArg}, {func(c *api.Config) { c.Room = 4097 }, api.ErrArg},
		{func(c *api.Config) { c.Peers = nil }, api.ErrMany}, {func(c *api.Config) { c.Peers = make([]api.Peer, 5) }, api.ErrMany},
		{func(c *api.Config) { c.Peers[1].AS = 0 }, api.ErrPeer}, {func(c *api.Config) { c.Peers[1].AS = 65536 }, api.ErrPeer}, {func(c *api.Config) { c.Peers[0].Addr = 0x7f000001 }, api.ErrPeer}, {func(c *api.Config) { c.Peers[1].Addr = c.Peers[0].Addr }, api.ErrPeer},
		{func(c *api.Config) { c.Peers[1].In = make([]api.Rule, 17) }, api.ErrPeer}, {func(c *api.Config) { c.Peers[1].Out = []api.Rule{{From: 3}} }, api.ErrPeer},
	} {
		x := config()
		c.turn(&x)
		n, no := New(x)
		if Check(x) != c.want || no != c.want || (n != nil) != (c.want == api.OK) {
			t.Errorf("case %d: %v, %v", i, Check(x), no)
		}
	}
}

// P14.2
func TestTake(t *testing.T) {
	n := table(t)
	told, no := n.Take(0, says(with(1, 65002), nth(2), nth(1), nth(2)))
	if no != api.OK || !slices.Equal(told, []api.Prefix{nth(1), nth(2)}) || n.Kept() != 1 {
		t.Errorf("%v %v", told, no)
	}
	if told, no := n.Take(0, says(with(1, 65002), nth(1))); no != api.OK || told != nil {
		t.Errorf("the same again: %v %v", told, no)
	}
	u := says(with(2, 65002), nth(1), nth(5))
	u.Withdrawn = []api.Prefix{nth(1), nth(2), nth(9)}
	if told, _ := n.Take(0, u); !slices.Equal(told, []api.Prefix{nth(1), nth(2), nth(5)}) || !slices.Equal(n.All(0), []api.Prefix{nth(1), nth(5)}) || n.Kept() != 1 {
		t.Errorf("withdrawn and there: %v %v", told, n.All(0))
	}
	u = says(with(2, 65002), nth(1))
	u.Withdrawn = []api.Prefix{nth(1)}
	if told, _ := n.Take(0, u); told != nil {
		t.Errorf("withdrawn and there as ahead: %v", told)
	}
	if n.All(1) != nil || n.Flush(1) != nil {
		t.Error("the other peer has routes")
	}
	if l := n.Flush(0); !slices.Equal(l, []api.Prefix{nth(1), nth(5)}) || n.Kept() != 0 || n.All(0) != nil {
		t.Errorf("Flush: %v", l)
	}
}

// P14.2: a way that leads back.
func TestOwnAS(t *testing.T) {
	n := table(t)
	n.Take(0, says(with(1, 65002), nth(1), nth(2)))
	a := with(1, 65002)
	a.Path = append(a.Path, api.Seg{Kind: api.Set, AS: []uint32{4, own}})
	told, no := n.Take(0, says(a, nth(1), nth(3)))
	if no != api.OK || !slices.Equal(told, []api.Prefix{nth(1)}) || n.Kept() != 1 || !slices.Equal(n.All(0), []api.Prefix{nth(2)}) {
		t.Errorf("%v %v", told, no)
	}
}

// P14.2
func TestRefusals(t *testing.T) {
	n := table(t)
	for _, peer := range []int{-1, 2, math.MinInt, math.MaxInt} {
		_, raw := n.Raw(peer, nth(1))
		_, used := n.Used(peer, nth(1))
		if l, no := n.Take(peer, takes(api.Prefix{Addr: 1})); no != api.ErrPeer || l != nil || n.All(peer) != nil || n.Flush(peer) != nil || raw || used {
			t.Errorf("peer %d: %v", peer, no)
		}
	}
	for i, u := range []api.Update{takes(api.Prefix{Addr: 1}), says(with(1), api.Prefix{Len: 33}), says(api.Attrs{}, nth(1)), says(api.Attrs{Next: 0x0b000001, Med: 1}, nth(1))} {
		if l, no := n.Take(0, u); no != api.ErrForm || l != nil {
			t.Errorf("case %d: %v", i, no)
		}
	}
	if _, no := n.Take(0, api.Update{Has: true}); no != api.OK {
		t.Errorf("without NLRI attributes don't matter: %v", no)
	}
}

// P14.2: a peer's routes, in the end.
func TestMaxIn(t *testing.T) {
	n := table(t)
	var l []api.Prefix
	for i := range api.MaxIn {
		l = append(l, nth(i))
	}
	if _, no := n.Take(0, says(with(1), append(l, nth(500))...)); no != api.ErrFull || n.Kept() != 0 || n.All(0) != nil {
		t.Errorf("one too many: %v", no)
	}
	if _, no := n.Take(0, says(with(1), l...)); no != api.OK {
		t.Errorf("as many as may be: %v", no)
	}
	if l, no := n.Take(0, says(with(2), nth(500))); no != api.ErrFull || l != nil || n.Kept() != 1 {
		t.Errorf("one more: %v", no)
	}
	u := says(with(2), nth(500))
	u.Withdrawn = l[:1]
	if told, no := n.Take(0, u); no != api.OK || len(told) != 2 {
		t.Errorf("one for another: %v", no)
	}
	if _, no := n.Take(1, says(with(1), nth(500))); no != api.OK {
		t.Errorf("of another peer: %v", no)
	}
}

// P14.2: unlike attributes in all, in the end.
func TestMaxAttrs(t *testing.T) {
	n := table(t)
	for i := range api.MaxAttrs {
		if _, no := n.Take(i%2, says(with(uint32(i)), nth(i))); no != api.OK {
			t.Fatalf("%d: %v", i, no)
		}
	}
	if _, no := n.Take(1, says(with(999), nth(0))); no != api.ErrFull || n.Kept() != api.MaxAttrs {
		t.Errorf("one more kind: %v", no)
	}
	if _, no := n.Take(0, says(with(999), nth(0))); no != api.OK || n.Kept() != api.MaxAttrs {
		t.Errorf("in the place of another: %v", no)
	}
	if _, no := n.Take(1, says(with(999), nth(0))); no != api.OK {
		t.Errorf("of a kind that is kept: %v", no)
	}
	if _, no := n.Take(0, says(with(1000), nth(0))); no != api.ErrFull {
		t.Errorf("in the place of one that the other peer has: %v", no)
	}
	u := says(with(1000), nth(0))
	u.Withdrawn = []api.Prefix{nth(2)}
	if _, no := n.Take(0, u); no != api.OK || n.Kept() != api.MaxAttrs {
		t.Errorf("one goes at once: %v", no)
	}
	if told, no := n.Take(0, says(with(1001, own), nth(777), nth(4))); no != api.OK || len(told) != 1 || n.Kept() != api.MaxAttrs-1 {
		t.Errorf("what isn't kept needs no room: %v %d", no, n.Kept())
	}
}

// P14.3
func TestRawAndUsed(t *testing.T) {
	n := table(t)
	in := with(1, 65002)
	in.Comms = []uint32{3}
	gone := addr.Of(0x0c010000, 16)
	n.Take(0, says(in, nth(1), gone))
	n.Take(1, says(in, nth(1)))
	in.Comms[0] = 9
	raw, ok := n.Raw(0, nth(1))
	in.Comms[0] = 3
	if !ok || !attr.Same(raw, in) {
		t.Errorf("Raw: %v", raw)
	}
	used, ok := n.Used(0, nth(1))
	if !ok || used.Pref != 7 || !used.HasPref || len(used.Path[0].AS) != 2 || used.Path[0].AS[0] != own {
		t.Errorf("Used: %v", used)
	}
	if used, ok := n.Used(1, nth(1)); !ok || !attr.Same(used, in) {
		t.Errorf("no rules: %v", used)
	}
	if _, ok := n.Raw(0, gone); !ok {
		t.Error("Raw is ahead of the policy")
	}
	for _, p := range []api.Prefix{gone, nth(2), {Addr: 1}} {
		if used, ok := n.Used(0, p); ok || !attr.Same(used, api.Attrs{}) {
			t.Errorf("%v: %v", p, used)
		}
	}
	if _, ok := n.Raw(0, nth(2)); ok {
		t.Error("Raw of none")
	}
}

// model is what was said, plainly.
type model struct{ said [2]map[api.Prefix]api.Attrs }

func (m *model) take(peer int, u api.Update) ([]api.Prefix, bool) {
	next := map[api.Prefix]api.Attrs{}
	for p, a := range m.said[peer] {
		next[p] = a
	}
	for _, p := range u.Withdrawn {
		delete(next, p)
	}
	for _, p := range u.NLRI {
		delete(next, p)
		if len(u.Attrs.Path) == 0 || u.Attrs.Path[0].AS[0] != own {
			next[p] = u.Attrs
		}
	}
	if len(next) > api.MaxIn || len(kinds(next, m.said[1-peer])) > api.MaxAttrs {
		return nil, false
	}
	var told []api.Prefix
	for _, p := range append(slices.Clone(u.Withdrawn), u.NLRI...) {
		a, had := m.said[peer][p]
		b, has := next[p]
		if (had != has || !attr.Same(a, b)) && !slices.Contains(told, p) {
			told = append(told, p)
		}
	}
	slices.SortFunc(told, func(p, q api.Prefix) int {
		if addr.Less(p, q) {
			return -1
		}
		return 1
	})
	m.said[peer] = next
	return told, true
}

func kinds(tables ...map[api.Prefix]api.Attrs) map[uint32]bool {
	out := map[uint32]bool{}
	for _, x := range tables {
		for _, a := range x {
			out[a.Next] = true
		}
	}
	return out
}

// P14.2, P14.3: held against plain maps.
func TestAgainstMaps(t *testing.T) {
	r := rand.New(rand.NewSource(1))
	n := table(t)
	m := &model{said: [2]map[api.Prefix]api.Attrs{{}, {}}}
	full := 0
	for range 6000 {
		peer := r.Intn(2)
		u := api.Update{Attrs: with(uint32(r.Intn(500)), []uint32{own, 5, 6, 7}[r.Intn(4)])}
		for range r.Intn(2) {
			u.Withdrawn = append(u.Withdrawn, nth(r.Intn(170)))
		}
		for range r.Intn(3) {
			u.NLRI = append(u.NLRI, nth(r.Intn(170)))
		}
		if u.Attrs.Path[0].AS[0] != own {
			u.Attrs.Path[0].AS[0] = 5
		}
		want, fits := m.take(peer, u)
		told, no := n.Take(peer, u)
		if !fits {
			full++
		}
		if (no == api.OK) != fits || !fits && no != api.ErrFull || !slices.Equal(told, want) || n.Kept() != len(kinds(m.said[0], m.said[1])) || len(n.All(peer)) != len(m.said[peer]) {
			t.Fatalf("%v %v, not %v", told, no, want)
		}
		for _, p := range n.All(peer) {
			raw, _ := n.Raw(peer, p)
			if !attr.Same(raw, m.said[peer][p]) {
				t.Fatalf("Raw(%v)", p)
			}
			used, by := n.Used(peer, p)
			if a, is := policy.Apply(config().Peers[peer].In, own, p, raw); is != by || !attr.Same(a, used) {
				t.Fatalf("Used(%v)", p)
			}
		}
	}
	if full == 0 {
		t.Error("it was never full")
	}
}

// R2: the Config is not kept.
func TestConfigIsNotKept(t *testing.T) {
	c := config()
	n, _ := New(c)
	c.Peers[0].In[1].Pref, c.Peers[1].AS = 99, 9
	n.Take(0, says(with(1), nth(1)))
	if a, _ := n.Used(0, nth(1)); a.Pref != 7 {
		t.Error("the Config is kept")
	}
}
