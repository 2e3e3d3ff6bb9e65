// Package forward lays the ways of the inside and the best routes together as what must be forwarded where.
package forward

import (
	"math"
	"slices"

	"signpost/api"
	"signpost/ecmp"
	"signpost/metric"
	"signpost/shelf"
)

// Table answers the entries of the links that the inside has by itself, and those of the best routes, which go ahead of them; in order.
func Table(ways []api.Way, best []api.Entry) []api.Entry {
	all := shelf.New[[]api.Hop]()
	for _, w := range ways {
		if w.Direct && metric.Less(w.Cost, math.Inf(1)) {
			all.Put(w.Prefix, []api.Hop{{Link: w.Link, Share: ecmp.All}})
		}
	}
	for _, e := range best {
		all.Put(e.Prefix, e.Hops)
	}
	var out []api.Entry
	for _, p := range all.All() {
		hops, _ := all.Get(p)
		out = append(out, api.Entry{Prefix: p, Hops: slices.Clone(hops)})
	}
	return out
}
