// Package shelf keeps things by prefixes, in their order.
package shelf

import (
	"signpost/addr"
	"signpost/api"
	"signpost/trie"
)

// Shelf keeps one thing for each of some prefixes.
type Shelf[T any] struct {
	places *trie.Trie // by prefix, where its thing lies
	things []T
	free   []int // places at which nothing lies
}

// New answers an empty Shelf.
func New[T any]() *Shelf[T] {
	return &Shelf[T]{places: trie.New()}
}

// Put lays x at p: false, and nothing, unless p is right.
func (s *Shelf[T]) Put(p api.Prefix, x T) bool {
	if !addr.Right(p) {
		return false
	}
	place, had := s.places.Get(p)
	if !had {
		place = s.room()
		s.places.Put(p, place)
	}
	s.things[place] = x
	return true
}

// room answers a place at which nothing lies.
func (s *Shelf[T]) room() int {
	if last := len(s.free) - 1; last >= 0 {
		place := s.free[last]
		s.free = s.free[:last]
		return place
	}
	var none T
	s.things = append(s.things, none)
	return len(s.things) - 1
}

// Get answers what lies at p.
func (s *Shelf[T]) Get(p api.Prefix) (T, bool) {
	place, had := s.places.Get(p)
	if !had {
		var none T
		return none, false
	}
	return s.things[place], true
}

// Cut takes away what lies at p: did anything?
func (s *Shelf[T]) Cut(p api.Prefix) bool {
	place, had := s.places.Get(p)
	if !had {
		return false
	}
	var none T
	s.things[place] = none
	s.free = append(s.free, place)
	return s.places.Cut(p)
}

// Match answers what lies at the longest prefix that has a.
func (s *Shelf[T]) Match(a uint32) (T, bool) {
	_, place, had := s.places.Match(a)
	if !had {
		var none T
		return none, false
	}
	return s.things[place], true
}

// Above answers the prefixes at which things lie that cover p, the shortest first.
func (s *Shelf[T]) Above(p api.Prefix) []api.Prefix {
	return s.places.Above(p)
}

// All answers the prefixes at which things lie, in order.
func (s *Shelf[T]) All() []api.Prefix {
	return s.places.All()
}

// Len answers how many things there are.
func (s *Shelf[T]) Len() int {
	return s.places.Len()
}
