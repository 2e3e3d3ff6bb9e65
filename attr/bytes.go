package attr

import (
	"slices"

	"signpost/api"
	"signpost/aspath"
	"signpost/wire"
)

// Types of attributes.
const (
	origin = 1
	path   = 2
	next   = 3
	med    = 4
	pref   = 5
	atomic = 6
	comms  = 8
)

// Flags of an attribute; the lowest four don't matter.
const (
	optional   = 0x80
	transitive = 0x40
	partial    = 0x20
	extended   = 0x10
)

// What is wrong with an UPDATE (RFC 4271, section 6.3).
const (
	updateError  = 3
	badList      = 1
	unknownType  = 2
	badFlags     = 4
	badLength    = 5
	badOrigin    = 6
	badNext      = 8
	badAttribute = 9
	badPath      = 11
)

const (
	longestShort  = 255 // bytes of a value of which the length is one byte
	bytesOfNumber = 4
)

// flagsOf answers the flags that an attribute of a known type has, and whether the type is known.
func flagsOf(kind int) (int, bool) {
	switch kind {
	case origin, path, next, pref, atomic:
		return transitive, true
	case med:
		return optional, true
	case comms:
		return optional | transitive, true
	}
	return 0, false
}

// Encode writes a.
func Encode(a api.Attrs) ([]byte, api.Errno) {
	if !Right(a) {
		return nil, api.ErrForm
	}
	w := wire.NewWriter()
	put(w, origin, []byte{byte(a.Origin)})
	row, _ := aspath.Encode(a.Path)
	put(w, path, row)
	put(w, next, numbers(a.Next))
	if a.HasMed {
		put(w, med, numbers(a.Med))
	}
	if a.HasPref {
		put(w, pref, numbers(a.Pref))
	}
	if a.Atomic {
		put(w, atomic, nil)
	}
	if len(a.Comms) > 0 {
		put(w, comms, numbers(a.Comms...))
	}
	return w.Done(), api.OK
}

// put writes one attribute.
func put(w *wire.Writer, kind int, value []byte) {
	flags, _ := flagsOf(kind)
	if len(value) > longestShort {
		w.U8(flags | extended)
		w.U8(kind)
		w.U16(len(value))
	} else {
		w.U8(flags)
		w.U8(kind)
		w.U8(len(value))
	}
	w.Raw(value)
}

func numbers(l ...uint32) []byte {
	w := wire.NewWriter()
	for _, n := range l {
		w.U32(n)
	}
	return w.Done()
}

// piece is one attribute as it stands.
type piece struct {
	flags, kind int
	value       []byte
	whole       []byte
}

// Decode reads attributes: they, which types there were, or what is wrong with the first that is.
func Decode(b []byte, inner bool) (api.Attrs, []int, api.Note) {
	var a api.Attrs
	var told []int
	var there [256]bool
	r := wire.NewReader(b)
attributes:
	for r.Left() > 0 {
		x, fine := cut(r, b)
		if !fine || there[x.kind] {
			return api.Attrs{}, nil, api.Note{Code: updateError, Sub: badList}
		}
		there[x.kind] = true
		flags, known := flagsOf(x.kind)
		switch {
		case x.kind == pref && !inner:
			continue attributes
		case !known && x.flags&optional == 0:
			return api.Attrs{}, nil, x.wrong(unknownType)
		case !known:
			told = append(told, x.kind)
			continue attributes
		case !x.flagged(flags):
			return api.Attrs{}, nil, x.wrong(badFlags)
		case !x.fits():
			return api.Attrs{}, nil, x.wrong(badLength)
		}
		if note := x.read(&a); note.Code != 0 {
			return api.Attrs{}, nil, note
		}
		told = append(told, x.kind)
	}
	slices.Sort(told)
	return Canon(a), told, api.Note{}
}

// cut takes the next attribute from r, which reads b: is it whole?
func cut(r *wire.Reader, b []byte) (piece, bool) {
	from := len(b) - r.Left()
	x := piece{flags: r.U8(), kind: r.U8()}
	size := 0
	if x.flags&extended != 0 {
		size = r.U16()
	} else {
		size = r.U8()
	}
	x.value = r.Raw(size)
	x.whole = slices.Clone(b[from : len(b)-r.Left()])
	return x, r.Fine()
}

// wrong answers the Note that shows the attribute.
func (x piece) wrong(sub int) api.Note {
	return api.Note{Code: updateError, Sub: sub, Data: x.whole}
}

// flagged tells whether x has the flags of its type.
func (x piece) flagged(flags int) bool {
	if x.flags&(optional|transitive) != flags {
		return false
	}
	return x.flags&partial == 0 || x.kind == comms
}

// fits tells whether the value can be so long.
func (x piece) fits() bool {
	n := len(x.value)
	switch x.kind {
	case origin:
		return n == 1
	case next, med, pref:
		return n == bytesOfNumber
	case atomic:
		return n == 0
	case comms:
		return n%bytesOfNumber == 0
	}
	return true
}

// read puts what x says into a.
func (x piece) read(a *api.Attrs) api.Note {
	r := wire.NewReader(x.value)
	switch x.kind {
	case origin:
		a.Origin = r.U8()
		if a.Origin > mostOrigin {
			return x.wrong(badOrigin)
		}
	case next:
		a.Next = r.U32()
		if !Good(a.Next) {
			return x.wrong(badNext)
		}
	case path:
		l, fine := aspath.Decode(x.value)
		if !fine {
			return api.Note{Code: updateError, Sub: badPath}
		}
		a.Path = l
	case comms:
		if len(x.value) > api.MaxComms*bytesOfNumber {
			return x.wrong(badAttribute)
		}
		for r.Left() > 0 {
			a.Comms = append(a.Comms, r.U32())
		}
	case med:
		a.HasMed, a.Med = true, r.U32()
	case pref:
		a.HasPref, a.Pref = true, r.U32()
	case atomic:
		a.Atomic = true
	}
	return api.Note{}
}
