package forward

import (
	"math"
	"reflect"
	"testing"

	"signpost/addr"
	"signpost/api"
)

func TestTable(t *testing.T) {
	ten, eleven, sub := addr.Of(0x0a000000, 8), addr.Of(0x0b000000, 8), addr.Of(0x0a010000, 16)
	ways := []api.Way{{Prefix: ten, Direct: true, Link: 3, Cost: 1}, {Prefix: eleven, Direct: true, Link: 4, Cost: math.Inf(1)}, {Prefix: sub, Next: 5, Cost: 1}, {Prefix: api.Prefix{}, Direct: true, Link: 5}}
	hops := []api.Hop{{Link: 1, Share: 8}, {Link: 2, Share: 8}}
	best := []api.Entry{{Prefix: api.Prefix{}, Hops: hops}, {Prefix: sub}}
	want := []api.Entry{{Prefix: api.Prefix{}, Hops: hops}, {Prefix: ten, Hops: []api.Hop{{Link: 3, Share: 16}}}, {Prefix: sub}}
	got := Table(ways, best)
	if !reflect.DeepEqual(got, want) {
		t.Errorf("%v", got)
	}
	got[0].Hops[0].Link = 9
	if hops[0].Link != 1 || Table(nil, nil) != nil {
		t.Error("memory is shared")
	}
}
