package ecmp

import (
	"math"
	"math/rand"
	"slices"
	"testing"

	"signpost/api"
	"signpost/decide"
)

func id(n, a uint32) decide.Cand { return decide.Cand{Path: api.Path{ID: n, Addr: a}} }

// P18.1
func TestSet(t *testing.T) {
	l := []decide.Cand{id(3, 1), id(1, 9), id(1, 2), {Cost: 1}, id(1, 2)}
	links := []int{0, 0, 0, 0, 0}
	for width, want := range map[int][]int{0: nil, -1: nil, 9: nil, math.MinInt: nil, 1: {2}, 2: {2, 4}, 3: {2, 4, 1}, 8: {2, 4, 1, 0}} {
		if got := Set(l, links, width); !slices.Equal(got, want) {
			t.Errorf("width %d: %v", width, got)
		}
	}
	if Set(l, links[:4], 3) != nil || Set(l, append(links, 1), 3) != nil || Set(nil, nil, 3) != nil || Hops(l, nil, 3) != nil {
		t.Error("links that don't go with the candidates")
	}
}

// P18.1
func TestHops(t *testing.T) {
	alike := []decide.Cand{id(1, 1), id(2, 1), id(3, 1)}
	for i, c := range []struct {
		l     []decide.Cand
		links []int
		width int
		want  []api.Hop
	}{
		{alike, []int{5, 5, 2}, 8, []api.Hop{{Link: 2, Share: 6}, {Link: 5, Share: 10}}},
		{alike, []int{5, 5, 2}, 1, []api.Hop{{Link: 5, Share: 16}}},
		{alike, []int{9, 7, 8}, 3, []api.Hop{{Link: 7, Share: 6}, {Link: 8, Share: 5}, {Link: 9, Share: 5}}},
		{alike, []int{-1, math.MaxInt, -1}, 2, []api.Hop{{Link: -1, Share: 8}, {Link: math.MaxInt, Share: 8}}},
		{nil, nil, 8, nil}, {alike, []int{1, 2, 3}, 0, nil}, {alike, []int{1, 2}, 3, nil},
	} {
		if got := Hops(c.l, c.links, c.width); !Same(got, c.want) {
			t.Errorf("case %d: %v", i, got)
		}
	}
}

// P18.1
func TestSame(t *testing.T) {
	a := []api.Hop{{Link: 1, Share: 16}}
	if !Same(a, []api.Hop{{Link: 1, Share: 16}}) || Same(a, nil) || Same(a, []api.Hop{{Link: 1, Share: 15}}) || Same(a, []api.Hop{{Link: 2, Share: 16}}) || !Same(nil, []api.Hop{}) {
		t.Error("Same")
	}
}

// P18.1: all shares are dealt out, by how many have the link.
func TestAllShares(t *testing.T) {
	r := rand.New(rand.NewSource(1))
	for range 5000 {
		var l []decide.Cand
		var links []int
		for range 1 + r.Intn(12) {
			c := id(uint32(r.Intn(5)), uint32(r.Intn(3)))
			c.Cost = float64(r.Intn(4) / 3)
			l, links = append(l, c), append(links, r.Intn(4))
		}
		width := 1 + r.Intn(8)
		set, hops := Set(l, links, width), Hops(l, links, width)
		best, _ := decide.Best(l)
		if set[0] != best || len(set) > width {
			t.Fatalf("%v", set)
		}
		counts := map[int]int{}
		for _, i := range set {
			counts[links[i]]++
		}
		sum, last := 0, -1
		for _, h := range hops {
			exact := float64(counts[h.Link]) / float64(len(set)) * All
			if h.Link <= last || math.Abs(float64(h.Share)-exact) > 1 {
				t.Fatalf("%v of %v", hops, counts)
			}
			sum, last = sum+h.Share, h.Link
		}
		if sum != All || len(hops) != len(counts) {
			t.Fatalf("%v of %v", hops, counts)
		}
	}
}
