package conf

import (
	"reflect"
	"testing"

	"signpost/api"
)

func TestCopy(t *testing.T) {
	c := api.Config{AS: 1, ID: 2, Hold: 3, Width: 4, Depth: 5, Room: 6, Peers: []api.Peer{{AS: 7, Addr: 8, In: []api.Rule{{To: 9}}, Out: []api.Rule{{To: 10}}}, {AS: 11}}}
	x := Copy(c)
	if !reflect.DeepEqual(x, c) {
		t.Errorf("%v", x)
	}
	x.Peers[0].In[0].To, x.Peers[0].Out[0].To, x.Peers[1].AS = 0, 0, 0
	if c.Peers[0].In[0].To != 9 || c.Peers[0].Out[0].To != 10 || c.Peers[1].AS != 11 {
		t.Error("memory is shared")
	}
}
