package decide

import (
	"math"
	"math/rand"
	"slices"
	"testing"

	"signpost/api"
	"signpost/aspath"
	"signpost/metric"
)

func cand(turn func(*Cand)) Cand {
	var c Cand
	turn(&c)
	return c
}

func path(kind int, as ...uint32) []api.Seg { return []api.Seg{{Kind: kind, AS: as}} }

func pref(n uint32) Cand {
	return cand(func(c *Cand) { c.Path.Attrs.HasPref, c.Path.Attrs.Pref = true, n })
}

// P17.1
func TestPref(t *testing.T) {
	if Pref(api.Attrs{}) != 100 || Pref(api.Attrs{Pref: 7}) != 100 || Pref(api.Attrs{HasPref: true}) != 0 || Pref(api.Attrs{HasPref: true, Pref: 0xffffffff}) != 0xffffffff {
		t.Error("Pref")
	}
}

// P17.1: each step by itself.
func TestSteps(t *testing.T) {
	count := func(l []api.Seg) Cand { return cand(func(c *Cand) { c.Path.Attrs.Path = l }) }
	origin := func(n int) Cand { return cand(func(c *Cand) { c.Path.Attrs.Origin = n }) }
	med := func(has bool, n uint32, as uint32) Cand {
		return cand(func(c *Cand) { c.Path.Attrs.HasMed, c.Path.Attrs.Med, c.Path.Attrs.Path = has, n, path(2, as) })
	}
	none := func(n uint32) Cand {
		return cand(func(c *Cand) {
			c.Path.Attrs.HasMed, c.Path.Attrs.Med, c.Path.Attrs.Path = true, n, path(api.Set, 7)
		})
	}
	inner := func(is bool) Cand { return cand(func(c *Cand) { c.Path.Inner = is }) }
	cost := func(f float64) Cand { return cand(func(c *Cand) { c.Cost = f }) }
	id := func(n, a uint32) Cand { return cand(func(c *Cand) { c.Path.ID, c.Path.Addr = n, a }) }
	for i, c := range []struct {
		step int
		l    []Cand
		want []int
	}{
		{1, []Cand{pref(100), pref(200)}, []int{1}}, {1, []Cand{{}, pref(99), pref(100)}, []int{0, 2}},
		{2, []Cand{count(path(2, 1, 2)), count(path(1, 1, 2, 3)), count(path(2, 5))}, []int{1, 2}},
		{3, []Cand{origin(2), origin(1), origin(1)}, []int{1, 2}},
		{4, []Cand{med(true, 5, 1), med(true, 4, 1), med(true, 9, 2), med(true, 4, 1)}, []int{1, 2, 3}}, {4, []Cand{med(false, 9, 1), med(true, 1, 1)}, []int{0}},
		{4, []Cand{none(3), none(2), med(true, 9, 7), med(true, 9, 0)}, []int{1, 2, 3}},
		{5, []Cand{inner(true), inner(false), inner(true)}, []int{1}}, {5, []Cand{inner(true), inner(true)}, []int{0, 1}},
		{6, []Cand{cost(2), cost(1), cost(1)}, []int{1, 2}}, {6, []Cand{cost(math.NaN()), cost(math.Inf(1)), cost(-1)}, []int{0, 1, 2}}, {6, []Cand{cost(math.NaN()), cost(math.MaxFloat64)}, []int{1}}, {6, []Cand{cost(math.Copysign(0, -1)), cost(0)}, []int{0, 1}},
		{7, []Cand{id(3, 1), id(2, 5), id(2, 4), id(2, 4)}, []int{2}}, {7, []Cand{{}, {}}, []int{0}},
	} {
		if got := Left(c.l, c.step); !slices.Equal(got, c.want) {
			t.Errorf("case %d: %v, not %v", i, got, c.want)
		}
		if c.step < 7 {
			if ahead := Left(c.l, c.step-1); len(ahead) != len(c.l) {
				t.Errorf("case %d: an earlier step takes away", i)
			}
		}
	}
}

// P17.1: how many steps.
func TestHowManySteps(t *testing.T) {
	l := []Cand{pref(1), pref(2), pref(2)}
	for step, want := range map[int]int{math.MinInt: 3, -1: 3, 0: 3, 1: 2, 6: 2, 7: 1, 8: 1, math.MaxInt: 1} {
		if got := Left(l, step); len(got) != want {
			t.Errorf("step %d: %v", step, got)
		}
	}
	if len(Left(nil, 7)) != 0 {
		t.Error("Left of none")
	}
}

// P17.2
func TestBest(t *testing.T) {
	if i, ok := Best(nil); i != 0 || ok {
		t.Error("Best of none")
	}
	if i, ok := Best([]Cand{pref(100), pref(200)}); i != 1 || !ok {
		t.Errorf("Best: %d", i)
	}
	a, b := pref(1), pref(2)
	if Better(a, b, 7) || !Better(b, a, 1) || Better(b, a, 0) || Better(a, a, 6) || !Better(a, a, 7) {
		t.Error("Better")
	}
}

// plainLeft says P17.1 pair by pair.
func plainLeft(l []Cand, step int) []int {
	var left []int
	for i := range l {
		left = append(left, i)
	}
	m := func(c Cand) uint32 {
		if c.Path.Attrs.HasMed {
			return c.Path.Attrs.Med
		}
		return 0
	}
	away := []func(a, b Cand) bool{
		func(a, b Cand) bool { return Pref(a.Path.Attrs) < Pref(b.Path.Attrs) },
		func(a, b Cand) bool { return aspath.Count(a.Path.Attrs.Path) > aspath.Count(b.Path.Attrs.Path) },
		func(a, b Cand) bool { return a.Path.Attrs.Origin > b.Path.Attrs.Origin },
		func(a, b Cand) bool {
			x, is := aspath.First(a.Path.Attrs.Path)
			y, has := aspath.First(b.Path.Attrs.Path)
			return x == y && is == has && m(a) > m(b)
		},
		func(a, b Cand) bool { return a.Path.Inner && !b.Path.Inner },
		func(a, b Cand) bool { return metric.Less(b.Cost, a.Cost) },
		func(a, b Cand) bool {
			return a.Path.ID > b.Path.ID || a.Path.ID == b.Path.ID && a.Path.Addr > b.Path.Addr
		},
	}
	for s := 0; s < step; s++ {
		var out []int
		for _, i := range left {
			worse := false
			for _, k := range left {
				worse = worse || away[s](l[i], l[k])
			}
			if !worse {
				out = append(out, i)
			}
		}
		left = out
	}
	if step == 7 && len(left) > 1 {
		left = left[:1]
	}
	return left
}

// P17.1, P17.2: held against a plain reckoning.
func TestAgainstPlain(t *testing.T) {
	r := rand.New(rand.NewSource(1))
	for range 20000 {
		var l []Cand
		for range r.Intn(7) {
			var c Cand
			c.Path.Attrs.Origin, c.Path.Inner = r.Intn(2), r.Intn(2) == 0
			c.Path.Attrs.HasPref, c.Path.Attrs.Pref = r.Intn(6) == 0, uint32(100+r.Intn(2))
			c.Path.Attrs.HasMed, c.Path.Attrs.Med = r.Intn(2) == 0, uint32(r.Intn(2))
			c.Path.Attrs.Path = path(1+r.Intn(2), []uint32{5, 6, 7}[:1+r.Intn(2)]...)
			c.Path.Attrs.Path[0].AS[0] = uint32(r.Intn(2))
			c.Path.Attrs.Path[0].AS = slices.Clone(c.Path.Attrs.Path[0].AS)
			c.Cost = []float64{0, 1, math.NaN(), math.Inf(1)}[r.Intn(4)]
			c.Path.ID, c.Path.Addr = uint32(r.Intn(2)), uint32(r.Intn(2))
			l = append(l, c)
		}
		for step := range 8 {
			if got, want := Left(l, step), plainLeft(l, step); !slices.Equal(got, want) {
				t.Fatalf("step %d: %v, not %v of %v", step, got, want, l)
			}
		}
		best, ok := Best(l)
		if ok != (len(l) > 0) || ok && best != plainLeft(l, 7)[0] {
			t.Fatalf("Best: %d", best)
		}
	}
}
