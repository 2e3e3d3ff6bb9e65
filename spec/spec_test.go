package spec

import (
	"math"
	"math/rand"
	"reflect"
	"slices"
	"testing"

	"signpost/addr"
	"signpost/adjin"
	"signpost/api"
	"signpost/attr"
	"signpost/decide"
	"signpost/ecmp"
	"signpost/igp"
	"signpost/nexthop"
)

const own = 65001

var ten = addr.Of(0x0a000000, 8)

func config() api.Config {
	return api.Config{AS: own, ID: 0x0a000001, Width: 8, Depth: 3, Peers: []api.Peer{
		{AS: 65002, Addr: 0x0b000002, In: []api.Rule{{Prefix: addr.Of(0x0c000000, 8), To: 32, Reject: true}, {To: 32, Comm: 5, SetPref: true, Pref: 7}}},
		{AS: own, Addr: 0x0b000003},
		{AS: 65004, Addr: 0x0b000004},
	}}
}

func attrs(next uint32, as ...uint32) api.Attrs {
	return api.Attrs{Next: next, Path: []api.Seg{{Kind: api.Sequence, AS: append([]uint32{65002}, as...)}}}
}

func link(a uint32, n, link int, cost float64) api.Way {
	return api.Way{Prefix: addr.Of(a, n), Direct: true, Link: link, Cost: cost}
}

// start has one peer, one route and a way by link 3.
func start() State {
	return State{Said: []Said{{0, ten, attrs(0x0b000001)}}, IDs: []uint32{9, 8, 7}, Ways: []api.Way{link(0x0b000000, 8, 3, 2)}}
}

// P19.2
func TestOneRoute(t *testing.T) {
	want := Loc{Prefix: ten, Path: api.Path{Peer: 0, ID: 9, Addr: 0x0b000002, Attrs: attrs(0x0b000001)}, Hops: []api.Hop{{Link: 3, Share: 16}}}
	got, ok := One(config(), start(), ten)
	if !ok || got.Prefix != ten || !reflect.DeepEqual(got.Hops, want.Hops) || !attr.Same(got.Path.Attrs, want.Path.Attrs) || got.Path.ID != 9 || got.Path.Addr != 0x0b000002 || got.Path.Inner {
		t.Errorf("%v", got)
	}
	if l := All(config(), start()); len(l) != 1 || !reflect.DeepEqual(l[0], got) {
		t.Errorf("%v", l)
	}
	l, links := Cands(config(), start(), ten)
	if len(l) != 1 || !slices.Equal(links, []int{3}) || l[0].Cost != 2 {
		t.Errorf("%v %v", l, links)
	}
}

// P19.1: what takes a candidate away.
func TestNoCandidate(t *testing.T) {
	for i, turn := range []func(c *api.Config, s *State){
		func(c *api.Config, s *State) { c.Width = 0 },
		func(c *api.Config, s *State) { s.IDs[0] = 0 },
		func(c *api.Config, s *State) { s.IDs = nil },
		func(c *api.Config, s *State) { s.Ways = nil },
		func(c *api.Config, s *State) { s.Ways[0].Cost = math.Inf(1) },
		func(c *api.Config, s *State) { s.Ways = append(s.Ways, link(0x0b000000, 8, 3, math.Inf(1))) },
		func(c *api.Config, s *State) { s.Ways[0].Cost = math.NaN() },
		func(c *api.Config, s *State) { s.Said[0].Peer = 3 },
		func(c *api.Config, s *State) { s.Said[0].Peer = -1 },
		func(c *api.Config, s *State) { s.Said[0].Prefix = addr.Of(0x0a000000, 9) },
		func(c *api.Config, s *State) { s.Said[0].Attrs.Path[0].AS[0] = own },
		func(c *api.Config, s *State) { s.Said[0].Attrs.Med = 4 },
		func(c *api.Config, s *State) { s.Said = append(s.Said, Said{0, ten, api.Attrs{}}) },
		func(c *api.Config, s *State) { s.Said = append(s.Said, Said{0, ten, attrs(0x0b000001, own)}) },
		func(c *api.Config, s *State) { s.Said = append(s.Said, Said{0, ten, attrs(0x0c000001)}) },
		func(c *api.Config, s *State) { c.Peers[0].In[0].Prefix = api.Prefix{} },
	} {
		c, s := config(), start()
		turn(&c, &s)
		l, links := Cands(c, s, ten)
		if x, ok := One(c, s, ten); l != nil || links != nil || ok || !reflect.DeepEqual(x, Loc{}) {
			t.Errorf("case %d: %v", i, l)
		}
	}
	if l, links := Cands(config(), start(), api.Prefix{Addr: 1}); l != nil || links != nil {
		t.Error("a prefix that is not right")
	}
	if l := All(config(), State{}); l != nil {
		t.Errorf("%v", l)
	}
	c := config()
	c.Room = -1
	if All(c, start()) != nil || Table(c, start()) != nil {
		t.Error("a Config that is refused")
	}
}

// P19.1: the last word counts; the peers by number; the policy and the ways as they are.
func TestLastWord(t *testing.T) {
	s := start()
	s.Said = []Said{{2, ten, attrs(0x0b000001)}, {0, ten, api.Attrs{}}, {1, ten, attrs(0x0b000009)}, {0, ten, attrs(0x0b000001)}}
	s.Said[3].Attrs.Comms = []uint32{5}
	s.Ways = append(s.Ways, link(0x0b000000, 8, 300, 1), link(0x0b000000, 8, 4, 5), api.Way{Prefix: addr.Of(0x0b000009, 32), Next: 0x0b000001, Cost: 1})
	l, links := Cands(config(), s, ten)
	if len(l) != 3 || !slices.Equal(links, []int{4, 4, 4}) || l[0].Path.Peer != 0 || l[1].Path.Peer != 1 || l[2].Path.Peer != 2 {
		t.Fatalf("%v %v", l, links)
	}
	if !l[0].Path.Attrs.HasPref || l[0].Path.Attrs.Pref != 7 || l[0].Cost != 5 || l[1].Cost != 6 || !l[1].Path.Inner || l[2].Path.Inner {
		t.Errorf("%v", l)
	}
}

// P19.2
func TestTable(t *testing.T) {
	s := start()
	sub := addr.Of(0x0a010000, 16)
	s.Said = append(s.Said, Said{0, sub, attrs(0x63000001)}) // leads nowhere
	s.Ways = append(s.Ways, link(0x0a000000, 8, 5, 1), link(0x0c000000, 8, 6, math.Inf(1)), link(0x0a010000, 16, 7, 0), api.Way{Prefix: addr.Of(0x0d000000, 8), Next: 0x0b000001})
	want := []api.Entry{{Prefix: ten, Hops: []api.Hop{{Link: 3, Share: 16}}}, {Prefix: sub, Hops: []api.Hop{{Link: 7, Share: 16}}}, {Prefix: addr.Of(0x0b000000, 8), Hops: []api.Hop{{Link: 3, Share: 16}}}}
	if got := Table(config(), s); !reflect.DeepEqual(got, want) {
		t.Errorf("%v", got)
	}
}

func some(r *rand.Rand) State {
	s := State{IDs: []uint32{uint32(r.Intn(3)), uint32(r.Intn(3)), 5}[:r.Intn(4)]}
	for range r.Intn(12) {
		a := attrs(0x0b000000+uint32(r.Intn(4))<<16, uint32(r.Intn(2)))
		a.HasMed, a.Med = true, uint32(r.Intn(2))
		if r.Intn(6) == 0 {
			a.Path[0].AS[0] = own
		}
		if r.Intn(6) == 0 {
			a.Next = 0
		}
		s.Said = append(s.Said, Said{r.Intn(5) - 1, addr.Of(0x0a000000+uint32(r.Intn(3))<<25, 7+r.Intn(2)), a})
	}
	for range r.Intn(8) {
		w := link(0x0b000000+uint32(r.Intn(4))<<16, 16-8*r.Intn(2), r.Intn(4), []float64{0, 1, math.Inf(1)}[r.Intn(3)])
		if r.Intn(3) == 0 {
			w.Direct, w.Link, w.Next = false, 0, 0x0b000000+uint32(r.Intn(4))<<16
		}
		s.Ways = append(s.Ways, w)
	}
	return s
}

// plain says P19.1 with the keepers of the lower layers.
func plain(c api.Config, s State, p api.Prefix) ([]decide.Cand, []int) {
	ways := igp.New()
	for _, w := range s.Ways {
		ways.Put(w)
	}
	var l []decide.Cand
	var links []int
	for peer, x := range c.Peers {
		in, _ := adjin.New(c)
		for _, said := range s.Said {
			if said.Peer == peer && said.Prefix == p {
				in.Flush(peer)
				in.Take(peer, api.Update{Has: true, Attrs: said.Attrs, NLRI: []api.Prefix{p}})
			}
		}
		used, by := in.Used(peer, p)
		end, no := nexthop.Resolve(ways, used.Next, c.Depth)
		if by && no == api.OK && peer < len(s.IDs) && s.IDs[peer] != 0 {
			l = append(l, decide.Cand{Path: api.Path{Peer: peer, ID: s.IDs[peer], Addr: x.Addr, Inner: x.AS == c.AS, Attrs: used}, Cost: end.Cost})
			links = append(links, end.Link)
		}
	}
	return l, links
}

// P19.1, P19.2: held against a plain reckoning.
func TestAgainstPlain(t *testing.T) {
	r := rand.New(rand.NewSource(1))
	found := 0
	for range 3000 {
		c, s := config(), some(r)
		c.Width = 1 + r.Intn(8)
		var all []Loc
		for i := range 3 {
			for n := 7; n <= 8; n++ {
				p := addr.Of(0x0a000000+uint32(i)<<25, n)
				if slices.ContainsFunc(all, func(x Loc) bool { return x.Prefix == p }) {
					continue
				}
				l, links := Cands(c, s, p)
				want, wantLinks := plain(c, s, p)
				if !reflect.DeepEqual(l, want) || !slices.Equal(links, wantLinks) {
					t.Fatalf("Cands: %v, not %v", l, want)
				}
				x, ok := One(c, s, p)
				best, any := decide.Best(want)
				if ok != any || ok && (!reflect.DeepEqual(x.Path, want[best].Path) || !ecmp.Same(x.Hops, ecmp.Hops(want, wantLinks, c.Width))) {
					t.Fatalf("One: %v", x)
				}
				if ok {
					all = append(all, x)
					found++
				}
			}
		}
		got := All(c, s)
		slices.SortFunc(all, func(a, b Loc) int {
			if addr.Less(a.Prefix, b.Prefix) {
				return -1
			}
			return 1
		})
		if !reflect.DeepEqual(got, all) {
			t.Fatalf("All: %v, not %v", got, all)
		}
	}
	if found < 500 {
		t.Errorf("%d routes", found)
	}
}
