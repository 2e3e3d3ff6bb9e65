package ortc

import (
	"slices"

	"signpost/addr"
	"signpost/api"
)

// nowhere is the kind of no hops: what an address finds that no entry has.
const nowhere = 0

// mark is an entry whose hops are told by their kind.
type mark struct {
	prefix api.Prefix
	kind   int
}

// node is a prefix of the tree, which has two kids or none.
type node struct {
	kids [2]*node
	// set has the kinds (rising) that may come down to the prefix, or be written at it, with the fewest entries below.
	set []int
}

// kindsOf answers the unlike hops of l, nowhere first, and l by their kinds.
func kindsOf(l []api.Entry) ([][]api.Hop, []mark) {
	kinds := [][]api.Hop{nil}
	known := map[string]int{"": nowhere}
	var marks []mark
	for _, e := range l {
		var b []byte
		for _, h := range e.Hops {
			b = append(b, byte(h.Link), byte(h.Share))
		}
		kind, seen := known[string(b)]
		if !seen {
			kind = len(kinds)
			known[string(b)] = kind
			kinds = append(kinds, e.Hops)
		}
		marks = append(marks, mark{e.Prefix, kind})
	}
	return kinds, marks
}

// grow makes the node of p, from below; kind: what comes down to it.
func grow(l []mark, p api.Prefix, kind int) *node {
	if len(l) > 0 && l[0].prefix == p {
		kind = l[0].kind
		l = l[1:]
	}
	if len(l) == 0 {
		return &node{set: []int{kind}}
	}
	low, _ := addr.Half(p, false)
	high, _ := addr.Half(p, true)
	cut := slices.IndexFunc(l, func(m mark) bool { return addr.Covers(high, m.prefix) })
	if cut < 0 {
		cut = len(l)
	}
	n := &node{}
	n.kids[0] = grow(l[:cut], low, kind)
	n.kids[1] = grow(l[cut:], high, kind)
	n.set = joined(n.kids[0].set, n.kids[1].set)
	return n
}

// joined answers what both sets have, or, if that is nothing, what one of them has.
func joined(a, b []int) []int {
	var both, one []int
	i, k := 0, 0
	for i < len(a) && k < len(b) {
		switch {
		case a[i] < b[k]:
			one = append(one, a[i])
			i++
		case a[i] > b[k]:
			one = append(one, b[k])
			k++
		default:
			both = append(both, a[i])
			i++
			k++
		}
	}
	if len(both) > 0 {
		return both
	}
	return append(append(one, a[i:]...), b[k:]...)
}

// write puts the entries of n, which is p, behind out, from above; kind: what comes down to it.
func (n *node) write(p api.Prefix, kind int, kinds [][]api.Hop, out []api.Entry) []api.Entry {
	if _, may := slices.BinarySearch(n.set, kind); !may {
		kind = n.set[0]
		out = append(out, api.Entry{Prefix: p, Hops: slices.Clone(kinds[kind])})
	}
	for i, kid := range n.kids {
		if kid != nil {
			half, _ := addr.Half(p, i == 1)
			out = kid.write(half, kind, kinds, out)
		}
	}
	return out
}
