package pack

import (
	"bytes"
	"math/rand"
	"reflect"
	"slices"
	"testing"

	"signpost/addr"
	"signpost/adjout"
	"signpost/api"
	"signpost/attr"
	"signpost/frame"
	"signpost/nlri"
	"signpost/update"
)

var ten, eleven = addr.Of(0x0a000000, 8), addr.Of(0x0b000000, 8)

func with(med uint32) api.Attrs {
	return api.Attrs{Next: 0x0b000001, HasMed: true, Med: med, HasPref: true, Pref: 1}
}

func there(p api.Prefix, med uint32) adjout.Change {
	return adjout.Change{Prefix: p, Attrs: with(med), There: true}
}

func wide(ases int) api.Attrs {
	a := api.Attrs{Next: 0x0b000001}
	for k := range 4 {
		a.Path = append(a.Path, api.Seg{Kind: api.Set, AS: make([]uint32, (ases+k)/4)})
	}
	return a
}

func unpack(t *testing.T, msgs [][]byte) []api.Update {
	t.Helper()
	var out []api.Update
	for _, m := range msgs {
		kind, body, n, note := frame.Split(m)
		u, wrong := update.Decode(body, false)
		if kind != api.UpdateMsg || n != len(m) || note.Code+wrong.Code != 0 {
			t.Fatalf("% x: %v %v", m, note, wrong)
		}
		out = append(out, u)
	}
	return out
}

// P23.1
func TestPack(t *testing.T) {
	if l, no := Pack(nil); no != api.OK || len(l) != 0 {
		t.Error("Pack of nothing")
	}
	sub := addr.Of(0x0a010000, 16)
	l, no := Pack([]adjout.Change{there(sub, 5), there(eleven, 4), there(ten, 5), {Prefix: addr.Of(0x0c000000, 8)}, {Prefix: api.Prefix{}, Attrs: api.Attrs{Origin: 9}}})
	us := unpack(t, l)
	if no != api.OK || len(us) != 3 {
		t.Fatalf("%v %v", us, no)
	}
	if !slices.Equal(us[0].Withdrawn, []api.Prefix{{}, addr.Of(0x0c000000, 8)}) || us[0].Has || us[1].Attrs.Med != 4 || !slices.Equal(us[1].NLRI, []api.Prefix{eleven}) || us[2].Attrs.Med != 5 || !slices.Equal(us[2].NLRI, []api.Prefix{ten, sub}) || us[2].Withdrawn != nil {
		t.Errorf("%v", us)
	}
}

// P23.1
func TestRefusals(t *testing.T) {
	bad, long := api.Prefix{Addr: 1}, adjout.Change{Prefix: api.Prefix{}, Attrs: wide(1012), There: true}
	for i, c := range []struct {
		l    []adjout.Change
		want api.Errno
	}{
		{[]adjout.Change{there(ten, 1), there(ten, 1), {Prefix: bad}}, api.ErrForm}, {[]adjout.Change{{Prefix: ten, There: true}}, api.ErrForm}, {[]adjout.Change{there(bad, 1)}, api.ErrForm},
		{[]adjout.Change{long, there(ten, 1), there(ten, 1)}, api.ErrKind}, {[]adjout.Change{{Prefix: ten}, there(ten, 1)}, api.ErrKind}, {[]adjout.Change{{Prefix: ten}, {Prefix: ten}}, api.ErrKind},
		{[]adjout.Change{there(ten, 1), long}, api.ErrLong},
	} {
		if l, no := Pack(c.l); no != c.want || l != nil {
			t.Errorf("case %d: %v", i, no)
		}
	}
}

// P23.1: attributes that leave room for a prefix of five bytes, and those that don't.
func TestRoom(t *testing.T) {
	fits, more := wide(1007), wide(1009)
	for _, a := range []*api.Attrs{&fits, &more} {
		a.Atomic, a.HasPref = true, true
	}
	fits.HasMed = true
	for i, c := range []struct {
		a    api.Attrs
		size int
		want api.Errno
	}{{fits, 4068, api.OK}, {more, 4069, api.ErrLong}} {
		for _, n := range []int{0, 32} { // short prefixes are refused as long ones are
			b, _ := attr.Encode(c.a)
			l, no := Pack([]adjout.Change{{Prefix: addr.Of(1, n), Attrs: c.a, There: true}})
			if len(b) != c.size || no != c.want || (len(l) == 1) != (no == api.OK) {
				t.Errorf("case %d: %d bytes: %v", i, len(b), no)
			}
		}
	}
	l, _ := Pack([]adjout.Change{{Prefix: addr.Of(1, 32), Attrs: fits, There: true}, {Prefix: addr.Of(2, 32), Attrs: fits, There: true}})
	if len(l) != 2 || len(l[0]) != api.MaxMsg {
		t.Errorf("%d messages", len(l))
	}
}

// P23.1: each message holds as many as it can.
func TestFull(t *testing.T) {
	r := rand.New(rand.NewSource(1))
	for _, gone := range []bool{true, false} {
		var l []adjout.Change
		for i := range 5000 {
			x := there(addr.Of(uint32(i)<<12, []int{20, 25, 32}[r.Intn(3)]), 7)
			if gone {
				x = adjout.Change{Prefix: x.Prefix}
			}
			l = append(l, x)
		}
		r.Shuffle(len(l), func(i, k int) { l[i], l[k] = l[k], l[i] })
		msgs, no := Pack(l)
		var all []api.Prefix
		for i, u := range unpack(t, msgs) {
			row := append(slices.Clone(u.Withdrawn), u.NLRI...)
			if i > 0 && len(msgs[i-1])+nlri.Size(row[0]) <= api.MaxMsg {
				t.Errorf("message %d has room for one more", i-1)
			}
			all = append(all, row...)
		}
		if no != api.OK || len(all) != len(l) || !slices.IsSortedFunc(all, func(p, q api.Prefix) int {
			if addr.Less(p, q) {
				return -1
			}
			return 1
		}) {
			t.Errorf("%d prefixes, %v", len(all), no)
		}
	}
	var l []adjout.Change
	for i := range 815 { // 4073 bytes: 814 of five and one of three
		l = append(l, adjout.Change{Prefix: addr.Of(uint32(i), 32)})
	}
	l[814].Prefix = addr.Of(0x0a000000, 16)
	if msgs, _ := Pack(l); len(msgs) != 1 || len(msgs[0]) != api.MaxMsg {
		t.Errorf("%d messages", len(msgs))
	}
	l[814].Prefix = addr.Of(0x0a000000, 17)
	if msgs, _ := Pack(l); len(msgs) != 2 {
		t.Errorf("%d messages", len(msgs))
	}
}

// P23.2
func TestFold(t *testing.T) {
	msg := func(u api.Update) []byte { return message(u) }
	a := msg(api.Update{Withdrawn: []api.Prefix{ten, eleven}, Has: true, Attrs: with(1), NLRI: []api.Prefix{eleven, {}}})
	b := msg(api.Update{Withdrawn: []api.Prefix{{}}})
	l, no := Fold([][]byte{a, b}, true)
	if want := []adjout.Change{{}, {Prefix: ten}, there(eleven, 1)}; no != api.OK || !reflect.DeepEqual(l, want) {
		t.Errorf("%v %v", l, no)
	}
	if l, no := Fold([][]byte{b, a}, true); no != api.OK || !l[0].There || len(l) != 3 {
		t.Errorf("%v %v", l, no)
	} else if l[0].Attrs.Comms = append(l[0].Attrs.Comms, 5); len(l[2].Attrs.Comms) != 0 {
		t.Error("R2: they share memory")
	}
	route := func(p api.Prefix) adjout.Change {
		return adjout.Change{Prefix: p, Attrs: wide(4), There: true}
	}
	msgs, _ := Pack([]adjout.Change{route(ten), route(eleven)})
	if l, no := Fold(msgs, false); no != api.OK || len(l) != 2 {
		t.Errorf("%v %v", l, no)
	} else if l[0].Attrs.Path[0].AS[0] = 9; l[1].Attrs.Path[0].AS[0] != 0 {
		t.Error("R2: they share memory")
	}
	if l, no := Fold(nil, true); no != api.OK || len(l) != 0 {
		t.Error("Fold of nothing")
	}
	if l, no := Fold([][]byte{a}, false); no != api.OK || l[0].Attrs.HasPref {
		t.Errorf("outside: %v %v", l, no)
	}
	alive, _ := frame.Join(api.Keepalive, nil)
	noPref := msg(api.Update{Has: true, Attrs: api.Attrs{Next: 0x0b000001}, NLRI: []api.Prefix{ten}})
	cut, _ := frame.Join(api.UpdateMsg, []byte{0, 0, 0, 1})
	for i, m := range [][]byte{alive, nil, a[:len(a)-1], append(bytes.Clone(a), 0), append(bytes.Clone(a), a...), noPref, cut, bytes.Repeat([]byte{1}, 23)} {
		if l, no := Fold([][]byte{a, m}, true); no != api.ErrForm || l != nil {
			t.Errorf("case %d: %v", i, no)
		}
	}
}

// P23.3: Fold of Pack is what was packed.
func TestBack(t *testing.T) {
	r := rand.New(rand.NewSource(2))
	for range 300 {
		inner := r.Intn(2) == 0
		var l []adjout.Change
		for i := range r.Intn(1500) {
			x := there(addr.Of(uint32(i)<<8, 24+r.Intn(9)), uint32(r.Intn(4)))
			if !inner {
				x.Attrs.HasPref, x.Attrs.Pref = false, 0
			}
			if r.Intn(3) == 0 {
				x = adjout.Change{Prefix: x.Prefix}
			}
			l = append(l, x)
		}
		want := slices.Clone(l)
		r.Shuffle(len(l), func(i, k int) { l[i], l[k] = l[k], l[i] })
		msgs, no := Pack(l)
		got, wrong := Fold(msgs, inner)
		if no != api.OK || wrong != api.OK || len(got) != len(want) {
			t.Fatalf("%v %v", no, wrong)
		}
		for i, x := range got {
			if x.Prefix != want[i].Prefix || x.There != want[i].There || !attr.Same(x.Attrs, want[i].Attrs) {
				t.Fatalf("%v, not %v", x, want[i])
			}
		}
	}
}
