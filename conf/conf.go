// Package conf copies what an engine is set up with, for those that keep it.
package conf

import (
	"slices"

	"signpost/api"
)

// Copy answers c in new memory.
func Copy(c api.Config) api.Config {
	out := c
	out.Peers = slices.Clone(c.Peers)
	for i, p := range out.Peers {
		out.Peers[i].In = slices.Clone(p.In)
		out.Peers[i].Out = slices.Clone(p.Out)
	}
	return out
}
