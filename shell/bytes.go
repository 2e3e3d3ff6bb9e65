package shell

import (
	"math"

	"signpost/addr"
	"signpost/api"
	"signpost/igp"
	"signpost/metric"
	"signpost/wire"
)

// mostBytes is how many bytes a Feed has at most.
const mostBytes = 60000

// Encode writes l.
func Encode(l []api.Item) ([]byte, api.Errno) {
	if len(l) > api.MaxScript {
		return nil, api.ErrLong
	}
	w := wire.NewWriter()
	for _, i := range l {
		if !right(i) {
			return nil, api.ErrArg
		}
		put(w, i)
	}
	return w.Done(), api.OK
}

func known(kind int) bool {
	return kind >= api.Up && kind <= api.Room
}

// right tells whether i can be written.
func right(i api.Item) bool {
	if !known(i.Kind) || !short(i.Peer) || !short(i.N) {
		return false
	}
	switch i.Kind {
	case api.Feed:
		return len(i.Bytes) <= mostBytes
	case api.Inside:
		return igp.Right(i.Way)
	case api.Gone:
		return addr.Right(i.Way.Prefix)
	}
	return true
}

// short tells whether n is a number of 32 bits with a sign.
func short(n int) bool {
	return n >= math.MinInt32 && n <= math.MaxInt32
}

// put writes one item, which is right.
func put(w *wire.Writer, i api.Item) {
	w.U8(i.Kind)
	w.U32(uint32(i.Peer))
	w.U32(uint32(i.N))
	switch i.Kind {
	case api.Feed:
		w.U16(len(i.Bytes))
		w.Raw(i.Bytes)
	case api.Inside:
		putWay(w, i.Way)
	case api.Gone:
		putPrefix(w, i.Way.Prefix)
	}
}

func putPrefix(w *wire.Writer, p api.Prefix) {
	w.U32(p.Addr)
	w.U8(p.Len)
}

func putWay(w *wire.Writer, x api.Way) {
	putPrefix(w, x.Prefix)
	if x.Direct {
		w.U8(1)
	} else {
		w.U8(0)
	}
	w.U8(x.Link)
	w.U32(x.Next)
	cost := metric.Bits(x.Cost)
	w.U32(uint32(cost >> 32))
	w.U32(uint32(cost))
}

// Decode reads the items of a script, as far as they can be read.
func Decode(b []byte) []api.Item {
	var out []api.Item
	r := wire.NewReader(b)
	for r.Left() > 0 && len(out) < api.MaxScript {
		kind := r.U8()
		if known(kind) {
			i, fine := get(r, kind)
			if !fine {
				return out
			}
			out = append(out, i)
		}
	}
	return out
}

// get reads the rest of one item: is it whole and right?
func get(r *wire.Reader, kind int) (api.Item, bool) {
	i := api.Item{Kind: kind, Peer: int(int32(r.U32())), N: int(int32(r.U32()))}
	fine := true
	switch kind {
	case api.Feed:
		n := r.U16()
		fine = n <= mostBytes
		i.Bytes = r.Raw(n)
	case api.Inside:
		i.Way, fine = getWay(r)
	case api.Gone:
		i.Way.Prefix = getPrefix(r)
		fine = addr.Right(i.Way.Prefix)
	}
	return i, fine && r.Fine()
}

func getPrefix(r *wire.Reader) api.Prefix {
	return api.Prefix{Addr: r.U32(), Len: r.U8()}
}

func getWay(r *wire.Reader) (api.Way, bool) {
	x := api.Way{Prefix: getPrefix(r)}
	direct := r.U8()
	x.Direct = direct == 1
	x.Link = r.U8()
	x.Next = r.U32()
	high := r.U32()
	cost, fine := metric.Of(uint64(high)<<32 | uint64(r.U32()))
	x.Cost = cost
	return x, fine && direct <= 1 && igp.Right(x)
}
