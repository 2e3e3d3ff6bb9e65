package addr

import (
	"math"
	"math/rand"
	"testing"

	"signpost/api"
)

// wrong are prefixes that are not right.
var wrong = []api.Prefix{{Addr: 1}, {Len: -1}, {Len: 33}, {Addr: 0x0a000001, Len: 31}, {Addr: 0x0a000000, Len: 6}, {Len: math.MinInt}, {Len: math.MaxInt}}

func some(r *rand.Rand) api.Prefix {
	return Of([]uint32{r.Uint32(), r.Uint32() & 0xf0000000, 0xffffffff, 0}[r.Intn(4)], r.Intn(33))
}

// P1.1
func TestMaskAndOf(t *testing.T) {
	for n, want := range map[int]uint32{math.MinInt: 0, -1: 0, 0: 0, 1: 0x80000000, 9: 0xff800000, 31: 0xfffffffe, 32: 0xffffffff, 33: 0xffffffff, math.MaxInt: 0xffffffff} {
		if got := Mask(n); got != want {
			t.Errorf("Mask(%d): %x, not %x", n, got, want)
		}
		p := Of(0xffffffff, n)
		if !Right(p) || p.Addr != want || p.Len != min(max(n, 0), 32) {
			t.Errorf("Of(.., %d): %v", n, p)
		}
	}
}

// P1.1
func TestWrongPrefixes(t *testing.T) {
	fine := Of(0x0a000000, 8)
	for _, p := range wrong {
		_, up := Up(p)
		_, half := Half(p, false)
		if Right(p) || up || half || Text(p) != "" {
			t.Errorf("%v passes for a prefix", p)
		}
		if Less(p, fine) || Less(fine, p) || Covers(p, fine) || Covers(fine, p) || Has(p, p.Addr) {
			t.Errorf("%v is held against another", p)
		}
		if Meet(p, fine) != (api.Prefix{}) || Meet(fine, p) != (api.Prefix{}) {
			t.Errorf("%v meets another", p)
		}
	}
}

// P1.1
func TestOrderAndCover(t *testing.T) {
	all, eight, nine, high := Of(0, 0), Of(0x0a000000, 8), Of(0x0a000000, 9), Of(0x0a800000, 9)
	row := []api.Prefix{all, eight, nine, high}
	for i, p := range row {
		for j, q := range row {
			if Less(p, q) != (i < j) {
				t.Errorf("Less(%v, %v)", p, q)
			}
		}
		if !Covers(all, p) || !Covers(p, p) {
			t.Errorf("what covers %v", p)
		}
	}
	if Covers(nine, eight) || Covers(nine, high) || !Covers(eight, high) {
		t.Error("Covers")
	}
	if !Has(eight, 0x0affffff) || Has(eight, 0x0b000000) || !Has(all, 0xffffffff) {
		t.Error("Has")
	}
}

// P1.1
func TestUpHalfMeet(t *testing.T) {
	if _, ok := Up(api.Prefix{}); ok {
		t.Error("Up of all")
	}
	if _, ok := Half(Of(1, 32), true); ok {
		t.Error("Half of one address")
	}
	if got := Meet(Of(0x0a000000, 16), Of(0x0a010000, 16)); got != Of(0x0a000000, 15) {
		t.Errorf("Meet: %v", got)
	}
	r := rand.New(rand.NewSource(1))
	for range 5000 {
		p, q := some(r), some(r)
		m := Meet(p, q)
		low, fine := Half(m, false)
		high, _ := Half(m, true)
		if !Covers(m, p) || !Covers(m, q) || fine && (Covers(low, p) && Covers(low, q) || Covers(high, p) && Covers(high, q)) {
			t.Fatalf("Meet(%v, %v): %v", p, q, m)
		}
		up, is := Up(high)
		if fine != (m.Len < 32) || is != fine {
			t.Fatalf("%v has halves: %v", m, fine)
		}
		if fine && (up != m || !Less(low, high) || Covers(low, high)) {
			t.Fatalf("halves of %v: %v, %v", m, low, high)
		}
	}
}

// P1.2
func TestTexts(t *testing.T) {
	for s, want := range map[string]api.Prefix{"0.0.0.0/0": {}, "10.0.0.0/8": Of(0x0a000000, 8), "255.255.255.255/32": Of(0xffffffff, 32), "1.20.100.0/22": Of(0x01146400, 22)} {
		if got, ok := Parse(s); got != want || !ok || Text(want) != s {
			t.Errorf("%s: %v, %s", s, got, Text(want))
		}
	}
	r := rand.New(rand.NewSource(2))
	for range 5000 {
		p := some(r)
		if got, ok := Parse(Text(p)); got != p || !ok {
			t.Fatalf("%v: %v", p, got)
		}
	}
}

// P1.2
func TestWrongTexts(t *testing.T) {
	for _, s := range []string{"", "/", "...", "1.2.3/8", "1.2.3.4.5/8", "10.0.0.1/8", "10.0.0.0", "10.0.0.0/", "10.0.0.0/33", "10.0.0.0/-1", "10.0.0.0/+8", "10.0.0.0/08", "010.0.0.0/8", "256.0.0.0/8", "10.0.0.0 /8", " 10.0.0.0/8", "10.0.0.0/8 ", "10.0.0.0/8/8", "0x1.0.0.0/8", "10.0.0.0/8\x00", "1000.0.0.0/8", "18446744073709551617.0.0.0/8", "\xff.0.0.0/8", "10.0.0.0/256", ".0.0.0/0", "10,0,0,0/8"} {
		if p, ok := Parse(s); ok || p != (api.Prefix{}) {
			t.Errorf("Parse(%q): %v, %v", s, p, ok)
		}
	}
}
