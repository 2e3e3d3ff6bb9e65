package intern

import (
	"math"
	"math/rand"
	"testing"

	"signpost/api"
	"signpost/attr"
)

func some(n int) api.Attrs {
	return api.Attrs{Next: uint32(n * 7919), Path: []api.Seg{{Kind: 2, AS: []uint32{uint32(n % 3)}}}}
}

func table(t *testing.T, room int) *Table {
	t.Helper()
	x, no := New(room)
	if no != api.OK {
		t.Fatalf("New(%d): %v", room, no)
	}
	return x
}

// P11.1
func TestNew(t *testing.T) {
	for _, room := range []int{0, -1, 4097, math.MinInt, math.MaxInt} {
		if x, no := New(room); x != nil || no != api.ErrArg {
			t.Errorf("New(%d): %v", room, no)
		}
	}
	table(t, 1)
	table(t, 4096)
}

// P11.1
func TestAddAndDrop(t *testing.T) {
	x := table(t, 5)
	for range 2 {
		if id, no := x.Add(some(1)); id != 0 || no != api.OK {
			t.Errorf("Add: %d, %v", id, no)
		}
	}
	if x.Drop(0) != api.OK || x.Uses(0) != 1 || x.Len() != 1 {
		t.Error("one use is left")
	}
	if x.Drop(0) != api.OK || x.Drop(0) != api.ErrNone || x.Uses(0) != 0 || x.Len() != 0 {
		t.Error("none is left")
	}
	if a, ok := x.Get(0); ok || !attr.Same(a, api.Attrs{}) {
		t.Error("Get of none")
	}
	for _, id := range []int{-1, 1, 4096, math.MinInt, math.MaxInt} {
		if _, ok := x.Get(id); ok || x.Drop(id) != api.ErrNone || x.Uses(id) != 0 {
			t.Errorf("id %d", id)
		}
	}
}

// P11.1: by attr.Same, and kept as attr.Canon.
func TestCanon(t *testing.T) {
	x := table(t, 5)
	x.Add(api.Attrs{Comms: []uint32{1, 2}})
	if id, _ := x.Add(api.Attrs{Comms: []uint32{2, 1, 2}, Med: 9, Pref: 9}); id != 0 || x.Uses(0) != 2 {
		t.Errorf("another id: %d", id)
	}
	x.Add(api.Attrs{Comms: []uint32{9, 3, 3}, Med: 4})
	if a, ok := x.Get(1); !ok || a.Med != 0 || len(a.Comms) != 2 || a.Comms[0] != 3 {
		t.Errorf("%v", a)
	}
}

// P11.1: the least id that is free; ErrFull of a new one alone.
func TestIdsAndRoom(t *testing.T) {
	x := table(t, 3)
	for n := range 3 {
		if id, _ := x.Add(some(n)); id != n {
			t.Errorf("id %d, not %d", id, n)
		}
	}
	if id, no := x.Add(some(3)); id != 0 || no != api.ErrFull || x.Len() != 3 {
		t.Errorf("full: %d, %v", id, no)
	}
	if id, no := x.Add(some(2)); id != 2 || no != api.OK {
		t.Errorf("what is there: %d, %v", id, no)
	}
	x.Drop(1)
	x.Drop(0)
	if id, _ := x.Add(some(9)); id != 0 {
		t.Errorf("the least: %d", id)
	}
	if id, _ := x.Add(some(8)); id != 1 {
		t.Errorf("the next: %d", id)
	}
}

// R2
func TestMemory(t *testing.T) {
	x := table(t, 3)
	a := some(1)
	x.Add(a)
	a.Path[0].AS[0] = 77
	got, _ := x.Get(0)
	got.Path[0].AS[0] = 78
	if again, _ := x.Get(0); again.Path[0].AS[0] != 1 {
		t.Error("the Table's memory is shared")
	}
}

// P11.1: held against a plain list.
func TestAgainstList(t *testing.T) {
	r := rand.New(rand.NewSource(1))
	x := table(t, 20)
	model := map[int]int{} // id to which one
	uses := map[int]int{}
	for range 20000 {
		n, id := r.Intn(30), r.Intn(22)-1
		if r.Intn(2) == 0 {
			at, found := -1, false
			for i, m := range model {
				if m == n {
					at, found = i, true
				}
			}
			got, no := x.Add(some(n))
			for i := 0; !found && at < 0; i++ {
				if _, taken := model[i]; !taken {
					at = i
				}
			}
			if !found && len(model) == 20 {
				if no != api.ErrFull {
					t.Fatalf("full: %v", no)
				}
				continue
			}
			if no != api.OK || got != at {
				t.Fatalf("Add(%d): %d, not %d", n, got, at)
			}
			model[at] = n
			uses[at]++
		} else if (x.Drop(id) == api.OK) != (uses[id] > 0) {
			t.Fatalf("Drop(%d)", id)
		} else if uses[id] > 0 {
			uses[id]--
			if uses[id] == 0 {
				delete(model, id)
			}
		}
		if x.Len() != len(model) || x.Uses(id) != uses[id] {
			t.Fatalf("Len %d, not %d", x.Len(), len(model))
		}
		if n, is := model[id]; is {
			if a, _ := x.Get(id); !attr.Same(a, some(n)) {
				t.Fatalf("Get(%d)", id)
			}
		}
	}
}
