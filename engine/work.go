package engine

import (
	"slices"

	"signpost/api"
	"signpost/ecmp"
	"signpost/export"
	"signpost/forward"
	"signpost/ortc"
	"signpost/pack"
	"signpost/session"
)

// post is what is sent, by peers.
type post [][]byte

func (x post) add(peer int, b []byte) {
	x[peer] = append(x[peer], b...)
}

func (x post) sent() []Sent {
	var out []Sent
	for peer, b := range x {
		if len(b) > 0 {
			out = append(out, Sent{Peer: peer, Bytes: b})
		}
	}
	return out
}

// line does what an item says of a peer's session.
func (e *Engine) line(i api.Item, out post) {
	switch i.Kind {
	case api.Up:
		out.add(i.Peer, e.lines[i.Peer].Up())
	case api.Down:
		e.down(i.Peer, api.Note{Code: cease}, out)
	case api.Feed:
		// Byte by byte: what an UPDATE does is done ahead of the next message.
		for k := range i.Bytes {
			b, events := e.lines[i.Peer].Feed(i.Bytes[k : k+1])
			out.add(i.Peer, b)
			e.hear(i.Peer, events, out)
		}
	}
}

func (e *Engine) down(peer int, n api.Note, out post) {
	b, events := e.lines[peer].Down(n)
	out.add(peer, b)
	e.hear(peer, events, out)
}

func (e *Engine) tick(n int, out post) {
	for range min(n, mostTick) {
		for peer, line := range e.lines {
			b, events := line.Tick()
			out.add(peer, b)
			e.hear(peer, events, out)
		}
	}
}

// hear does what a session tells.
func (e *Engine) hear(peer int, l []session.Event, out post) {
	for _, x := range l {
		switch x.Kind {
		case session.Opened:
			e.rib.Up(peer, e.lines[peer].ID())
			for _, best := range e.rib.All() {
				e.tell(peer, best.Prefix)
			}
		case session.Closed:
			e.rib.Down(peer)
			e.in.Flush(peer)
			e.outs[peer].Clear()
		case session.Got:
			if e.rib.Say(peer, x.Update) == api.OK {
				e.in.Take(peer, x.Update)
			} else {
				e.down(peer, api.Note{Code: cease, Sub: tooMany}, out)
			}
		}
	}
}

// tell says what a peer should know of p.
func (e *Engine) tell(peer int, p api.Prefix) {
	best, is := e.rib.Get(p)
	if is {
		if a, may := export.Told(e.c, peer, p, best.Path); may {
			e.outs[peer].Want(p, a)
			return
		}
	}
	e.outs[peer].Lack(p)
}

// untold answers the peers that something is to be told, by number.
func (e *Engine) untold() []int {
	var out []int
	for peer := range e.outs {
		if e.up(peer) && len(e.outs[peer].Pending()) > 0 {
			out = append(out, peer)
		}
	}
	return out
}

// pick does the piece of work at place n.
func (e *Engine) pick(n int, out post) {
	prefixes, peers := len(e.rib.Dirty()), e.untold()
	work := prefixes + len(peers)
	if n < 0 || n >= work {
		n = 0
	}
	switch {
	case work == 0:
	case n < prefixes:
		e.reckon(n)
	default:
		e.send(peers[n-prefixes], out)
	}
}

// reckon reckons the best route to one of the prefixes that wait.
func (e *Engine) reckon(place int) {
	p, turned, _ := e.rib.Step(place)
	if !turned {
		return
	}
	e.stale = true
peers:
	for peer := range e.lines {
		if !e.up(peer) {
			continue peers
		}
		e.tell(peer, p)
	}
}

// send tells a peer what it is to be told.
func (e *Engine) send(peer int, out post) {
	msgs, _ := pack.Pack(e.outs[peer].Take()) // what export.Told lets by can be packed
	for _, m := range msgs {
		out.add(peer, m)
	}
}

// write does so many writes on the forwarding table.
func (e *Engine) write(n int) {
	for range min(n, api.MaxRoom) {
		e.aim()
		e.load.Step()
	}
}

// aim makes what is now the load's target, if it is another one.
func (e *Engine) aim() {
	if !e.stale {
		return
	}
	e.stale = false
	var best []api.Entry
	for _, x := range e.rib.All() {
		best = append(best, api.Entry{Prefix: x.Prefix, Hops: x.Hops})
	}
	l := ortc.Less(forward.Table(e.ways.All(), best))
	if !slices.EqualFunc(l, e.target, same) {
		e.target = l
		e.load.Target(l)
	}
}

func same(a, b api.Entry) bool {
	return a.Prefix == b.Prefix && ecmp.Same(a.Hops, b.Hops)
}
