package shelf

import (
	"slices"
	"testing"

	"signpost/addr"
	"signpost/api"
)

func TestShelf(t *testing.T) {
	s := New[string]()
	ten, sub, all := addr.Of(0x0a000000, 8), addr.Of(0x0a010000, 16), api.Prefix{}
	if _, ok := s.Get(ten); ok || s.Cut(ten) || s.Len() != 0 {
		t.Error("an empty Shelf has something")
	}
	if s.Put(api.Prefix{Addr: 1}, "x") || s.Len() != 0 {
		t.Error("a prefix that is not right")
	}
	if !s.Put(sub, "b") {
		t.Error("Put")
	}
	s.Put(ten, "a")
	s.Put(all, "c")
	s.Put(ten, "d")
	if x, ok := s.Get(ten); x != "d" || !ok || s.Len() != 3 {
		t.Errorf("Get: %q", x)
	}
	if !slices.Equal(s.All(), []api.Prefix{all, ten, sub}) || !slices.Equal(s.Above(sub), []api.Prefix{all, ten, sub}) {
		t.Error("All, Above")
	}
	if x, ok := s.Match(0x0a010101); x != "b" || !ok {
		t.Errorf("Match: %q", x)
	}
	if !s.Cut(sub) || s.Cut(sub) || len(s.free) != 1 {
		t.Error("Cut")
	}
	if x, _ := s.Match(0x0a010101); x != "d" {
		t.Errorf("Match: %q", x)
	}
	s.Put(addr.Of(0x0b000000, 8), "e")
	if len(s.free) != 0 || len(s.things) != 3 {
		t.Error("the free place is not taken")
	}
	s.Cut(all)
	if x, ok := s.Match(0x0c000000); x != "" || ok {
		t.Errorf("Match: %q", x)
	}
}
