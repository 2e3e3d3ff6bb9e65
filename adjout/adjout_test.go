package adjout

import (
	"math/rand"
	"reflect"
	"slices"
	"testing"

	"signpost/addr"
	"signpost/api"
	"signpost/attr"
)

var (
	ten  = addr.Of(0x0a000000, 8)
	sub  = addr.Of(0x0a010000, 16)
	some = api.Attrs{Next: 0x0b000001, Path: []api.Seg{{Kind: 2, AS: []uint32{4}}}, Comms: []uint32{1, 2}}
)

// P22.1
func TestWantAndLack(t *testing.T) {
	o := New()
	if o.Pending() != nil || o.Take() != nil || o.All() != nil || o.Lack(ten) {
		t.Error("an empty Out has something")
	}
	if o.Want(ten, some) != api.OK || !slices.Equal(o.Pending(), []api.Prefix{ten}) || !slices.Equal(o.All(), []api.Prefix{ten}) {
		t.Error("Want")
	}
	if !o.Lack(ten) || o.Lack(ten) || o.Pending() != nil || o.All() != nil {
		t.Error("Want, Lack: nothing is pending")
	}
}

// P22.1
func TestRefusals(t *testing.T) {
	o := New()
	for i, c := range []struct {
		p api.Prefix
		a api.Attrs
	}{{api.Prefix{Addr: 1}, some}, {api.Prefix{Len: 33}, some}, {ten, api.Attrs{}}, {ten, api.Attrs{Next: 0x0b000001, Med: 1}}, {ten, api.Attrs{Next: 0x0b000001, Comms: []uint32{2, 1}}}} {
		if o.Want(c.p, c.a) != api.ErrForm || o.Pending() != nil {
			t.Errorf("case %d", i)
		}
	}
	bad := api.Prefix{Addr: 1}
	if _, ok := o.Wanted(bad); ok || o.Lack(bad) || o.Pending() != nil {
		t.Error("a prefix that is not right")
	}
}

// P22.1
func TestTake(t *testing.T) {
	o := New()
	o.Want(sub, some)
	o.Want(ten, some)
	l := o.Take()
	if want := []Change{{ten, some, true}, {sub, some, true}}; !reflect.DeepEqual(l, want) {
		t.Errorf("%v", l)
	}
	if o.Take() != nil || o.Pending() != nil {
		t.Error("Take twice")
	}
	o.Want(ten, some)
	if o.Pending() != nil {
		t.Error("Want of what was told")
	}
	other := some
	other.Origin = 1
	o.Want(ten, other)
	if a, ok := o.Wanted(ten); !ok || !attr.Same(a, other) {
		t.Errorf("Wanted: %v", a)
	}
	if a, ok := o.Told(ten); !ok || !attr.Same(a, some) {
		t.Errorf("Told: %v", a)
	}
	o.Want(ten, some)
	o.Lack(sub)
	if l := o.Take(); !reflect.DeepEqual(l, []Change{{Prefix: sub}}) {
		t.Errorf("%v", l)
	}
	for _, get := range []func(api.Prefix) (api.Attrs, bool){o.Wanted, o.Told} {
		if a, ok := get(sub); ok || !reflect.DeepEqual(a, api.Attrs{}) {
			t.Errorf("%v", a)
		}
	}
	o.Lack(ten)
	o.Clear()
	if _, ok := o.Told(ten); ok || o.Pending() != nil || o.All() != nil {
		t.Error("Clear")
	}
}

// P22.1: held against plain maps.
func TestAgainstMaps(t *testing.T) {
	r := rand.New(rand.NewSource(1))
	o := New()
	wanted, told := map[api.Prefix]uint32{}, map[api.Prefix]uint32{}
	for range 20000 {
		p := addr.Of(uint32(r.Intn(8))<<29, r.Intn(5))
		switch r.Intn(9) {
		case 0, 1, 2, 3:
			m := uint32(r.Intn(2))
			o.Want(p, api.Attrs{Next: 0x0b000001, HasMed: true, Med: m})
			wanted[p] = m
		case 4, 5, 6:
			_, had := wanted[p]
			if o.Lack(p) != had {
				t.Fatal("Lack")
			}
			delete(wanted, p)
		case 7:
			pending := o.Pending()
			var l []api.Prefix
			for _, x := range o.Take() {
				m, is := wanted[x.Prefix]
				if x.There != is || x.Attrs.Med != m {
					t.Fatalf("%v", x)
				}
				l = append(l, x.Prefix)
			}
			if !slices.Equal(pending, l) || o.Pending() != nil {
				t.Fatalf("%v, not %v", l, pending)
			}
			told = map[api.Prefix]uint32{}
			for p, m := range wanted {
				told[p] = m
			}
		}
		n := 0
		for q := range 8 * 5 {
			p := addr.Of(uint32(q/5)<<29, q%5)
			if p.Addr != uint32(q/5)<<29 {
				continue
			}
			a, x := wanted[p]
			b, y := told[p]
			if x != y || a != b {
				n++
			}
		}
		if l := o.Pending(); len(l) != n || !slices.IsSortedFunc(l, func(p, q api.Prefix) int {
			if addr.Less(p, q) {
				return -1
			}
			return 1
		}) || len(o.All()) != len(wanted) {
			t.Fatalf("%v: %d", l, n)
		}
	}
}

// R2
func TestMemory(t *testing.T) {
	o := New()
	a := attr.Canon(some)
	o.Want(ten, a)
	a.Path[0].AS[0] = 9
	x, _ := o.Wanted(ten)
	x.Comms[0] = 9
	l := o.Take()
	l[0].Attrs.Path[0].AS[0] = 9
	y, _ := o.Told(ten)
	y.Path[0].AS[0] = 9
	z, _ := o.Wanted(ten)
	w, _ := o.Told(ten)
	if !attr.Same(z, some) || !attr.Same(w, some) {
		t.Errorf("%v %v", z, w)
	}
}
