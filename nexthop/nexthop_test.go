package nexthop

import (
	"math"
	"math/rand"
	"slices"
	"testing"

	"signpost/addr"
	"signpost/api"
	"signpost/igp"
)

var inf = math.Inf(1)

func table(l ...api.Way) *igp.Table {
	t := igp.New()
	for _, w := range l {
		t.Put(w)
	}
	return t
}

func direct(a uint32, n, link int, cost float64) api.Way {
	return api.Way{Prefix: addr.Of(a, n), Direct: true, Link: link, Cost: cost}
}

func by(a uint32, n int, next uint32, cost float64) api.Way {
	return api.Way{Prefix: addr.Of(a, n), Next: next, Cost: cost}
}

// P16.1
func TestResolve(t *testing.T) {
	ten := uint32(0x0a000000)
	chain := []api.Way{by(ten, 8, 0x01010101, 1), by(0x01000000, 8, 0x02020202, 2), direct(0x02000000, 8, 3, 4)}
	first := []api.Prefix{addr.Of(ten, 8)}
	for i, c := range []struct {
		t     *igp.Table
		depth int
		end   End
		why   api.Errno
		trail []api.Prefix
	}{
		{table(chain...), 8, End{3, 7}, api.OK, []api.Prefix{chain[0].Prefix, chain[1].Prefix, chain[2].Prefix}},
		{table(chain...), 3, End{3, 7}, api.OK, []api.Prefix{chain[0].Prefix, chain[1].Prefix, chain[2].Prefix}},
		{table(chain...), 2, End{}, api.ErrDeep, []api.Prefix{chain[0].Prefix, chain[1].Prefix}},
		{table(chain...), 1, End{}, api.ErrDeep, first},
		{table(chain[:2]...), 8, End{}, api.ErrNone, []api.Prefix{chain[0].Prefix, chain[1].Prefix}},
		{table(direct(ten, 8, 9, 0.5)), 1, End{9, 0.5}, api.OK, first},
		{table(), 1, End{}, api.ErrNone, nil},
		{table(direct(ten, 8, 9, inf)), 1, End{}, api.ErrNone, nil},
		{table(by(ten, 8, ten+5, 1)), 8, End{}, api.ErrLoop, first},
		{table(by(ten, 8, ten+5, 1)), 1, End{}, api.ErrLoop, first}, // the loop is told ahead of the depth
		{table(by(ten, 8, 0x0b000000, 1), by(0x0b000000, 8, ten, 1)), 2, End{}, api.ErrLoop, []api.Prefix{addr.Of(ten, 8), addr.Of(0x0b000000, 8)}},
		{table(by(ten, 8, 0x0b000000, math.MaxFloat64), direct(0x0b000000, 8, 1, math.MaxFloat64)), 2, End{}, api.ErrNone, []api.Prefix{addr.Of(ten, 8), addr.Of(0x0b000000, 8)}},
		{table(chain...), 0, End{}, api.ErrArg, nil}, {table(chain...), 9, End{}, api.ErrArg, nil}, {table(chain...), math.MinInt, End{}, api.ErrArg, nil}, {nil, 3, End{}, api.ErrArg, nil},
	} {
		end, why := Resolve(c.t, ten+1, c.depth)
		trail := Trail(c.t, ten+1, c.depth)
		if end != c.end || why != c.why || !slices.Equal(trail, c.trail) {
			t.Errorf("case %d: %v %v %v", i, end, why, trail)
		}
	}
}

// P16.1: the costs are added in their order.
func TestOrderOfCosts(t *testing.T) {
	x := table(by(0x0a000000, 8, 0x0b000000, 1e16), by(0x0b000000, 8, 0x0c000000, 1), direct(0x0c000000, 8, 0, 1))
	if end, _ := Resolve(x, 0x0a000000, 3); end.Cost != 1e16 {
		t.Errorf("%v", end.Cost)
	}
	x = table(by(0x0a000000, 8, 0x0b000000, 1), by(0x0b000000, 8, 0x0c000000, 1), direct(0x0c000000, 8, 0, 1e16))
	if end, _ := Resolve(x, 0x0a000000, 3); end.Cost != 1e16+2 {
		t.Errorf("%v", end.Cost)
	}
}

// P16.2
func TestDepends(t *testing.T) {
	x := table(by(0x0a000000, 8, 0x01010101, 1), direct(0x01000000, 8, 3, 4))
	for p, want := range map[api.Prefix]bool{
		addr.Of(0x0a000000, 8): true, addr.Of(0x0a000001, 32): true, addr.Of(0x0a000002, 32): false, {}: true, addr.Of(0x0a000000, 16): true, addr.Of(0x0a010000, 16): false,
		addr.Of(0x01000000, 8): true, addr.Of(0x01010101, 32): true, addr.Of(0x01010100, 32): false, addr.Of(0x02000000, 8): false, {Addr: 1}: false, {Len: -1}: false,
	} {
		if Depends(x, 0x0a000001, 2, p) != want {
			t.Errorf("%v", p)
		}
	}
	if !Depends(x, 0x0a000001, 1, addr.Of(0x01010101, 32)) {
		t.Error("what is too deep was asked for")
	}
	if !Depends(table(), 5, 1, addr.Of(5, 32)) || Depends(table(), 5, 1, addr.Of(6, 32)) {
		t.Error("what no way has was asked for")
	}
	if Depends(nil, 5, 1, api.Prefix{}) || Depends(x, 5, 0, api.Prefix{}) || Depends(x, 5, 9, api.Prefix{}) {
		t.Error("ErrArg depends on nothing")
	}
}

func someWay(r *rand.Rand) api.Way {
	p := addr.Of(uint32(r.Intn(16))<<28, r.Intn(5))
	cost := []float64{0, 1, 2.5, inf, math.MaxFloat64}[r.Intn(5)]
	if r.Intn(3) == 0 {
		return api.Way{Prefix: p, Direct: true, Link: r.Intn(5), Cost: cost}
	}
	return api.Way{Prefix: p, Next: uint32(r.Intn(16)) << 28, Cost: cost}
}

// P16.3: what a does not depend on may be put or cut, and Resolve of a stays. A prefix of the Trail is depended on.
func TestWhatIsNotDependedOn(t *testing.T) {
	r := rand.New(rand.NewSource(1))
	for range 20000 {
		x := igp.New()
		for range r.Intn(12) {
			x.Put(someWay(r))
		}
		a, depth, w := uint32(r.Intn(16))<<28, 1+r.Intn(8), someWay(r)
		for _, p := range Trail(x, a, depth) {
			if !Depends(x, a, depth, p) {
				t.Fatalf("%v of the Trail", p)
			}
		}
		if Depends(x, a, depth, w.Prefix) {
			continue
		}
		end, why := Resolve(x, a, depth)
		if r.Intn(2) == 0 {
			x.Put(w)
		} else {
			x.Cut(w.Prefix)
		}
		if again, no := Resolve(x, a, depth); again != end || no != why || Depends(x, a, depth, w.Prefix) {
			t.Fatalf("%v %v turned into %v %v", end, why, again, no)
		}
	}
}
