// Package addr has IPv4 prefixes: doc/01-addr.md.
package addr

import (
	"strconv"
	"strings"

	"signpost/api"
)

// width is how many bits an address has.
const width = 32

// Mask answers the n highest bits.
func Mask(n int) uint32 {
	if n < 1 {
		return 0
	}
	if n >= width {
		return 0xffffffff
	}
	return 0xffffffff << (width - n)
}

// Right tells whether p is a prefix: a length that may be, and no bits beyond it.
func Right(p api.Prefix) bool {
	return p.Len >= 0 && p.Len <= width && p.Addr&^Mask(p.Len) == 0
}

// Of answers the prefix of the first n bits of a.
func Of(a uint32, n int) api.Prefix {
	n = min(max(n, 0), width)
	return api.Prefix{Addr: a & Mask(n), Len: n}
}

// Less is the order of prefixes: by address, then by length.
func Less(p, q api.Prefix) bool {
	if !Right(p) || !Right(q) {
		return false
	}
	if p.Addr != q.Addr {
		return p.Addr < q.Addr
	}
	return p.Len < q.Len
}

// Has tells whether a begins as p does.
func Has(p api.Prefix, a uint32) bool {
	return Right(p) && a&Mask(p.Len) == p.Addr
}

// Covers tells whether each address of q is one of p.
func Covers(p, q api.Prefix) bool {
	return Right(q) && p.Len <= q.Len && Has(p, q.Addr)
}

// Up answers p with one bit less.
func Up(p api.Prefix) (api.Prefix, bool) {
	if !Right(p) || p.Len == 0 {
		return api.Prefix{}, false
	}
	return Of(p.Addr, p.Len-1), true
}

// Half answers p with one bit more, which is 1 if high.
func Half(p api.Prefix, high bool) (api.Prefix, bool) {
	if !Right(p) || p.Len == width {
		return api.Prefix{}, false
	}
	half := api.Prefix{Addr: p.Addr, Len: p.Len + 1}
	if high {
		half.Addr |= Mask(half.Len) &^ Mask(p.Len)
	}
	return half, true
}

// Meet answers the longest prefix that covers both.
func Meet(p, q api.Prefix) api.Prefix {
	if !Right(p) || !Right(q) {
		return api.Prefix{}
	}
	n := min(p.Len, q.Len)
	for (p.Addr^q.Addr)&Mask(n) != 0 {
		n--
	}
	return Of(p.Addr, n)
}

// Text writes p as 10.0.0.0/8.
func Text(p api.Prefix) string {
	if !Right(p) {
		return ""
	}
	var b []byte
	for shift := width - 8; shift >= 0; shift -= 8 {
		b = strconv.AppendInt(b, int64(p.Addr>>shift&0xff), 10)
		if shift > 0 {
			b = append(b, '.')
		}
	}
	b = append(b, '/')
	return string(strconv.AppendInt(b, int64(p.Len), 10))
}

// Parse reads what Text writes, and nothing else.
func Parse(s string) (api.Prefix, bool) {
	var p api.Prefix
	rest := s
	for _, end := range []string{".", ".", ".", "/"} {
		part, behind, found := strings.Cut(rest, end)
		n, fine := number(part, 0xff)
		if !found || !fine {
			return api.Prefix{}, false
		}
		p.Addr = p.Addr<<8 | uint32(n)
		rest = behind
	}
	n, fine := number(rest, width)
	p.Len = n
	if !fine || !Right(p) {
		return api.Prefix{}, false
	}
	return p, true
}

// number reads a number from 0 to most, in digits, with no nought ahead.
func number(s string, most int) (int, bool) {
	if len(s) < 1 || len(s) > 3 || len(s) > 1 && s[0] == '0' {
		return 0, false
	}
	n := 0
	for i := range len(s) {
		if s[i] < '0' || s[i] > '9' {
			return 0, false
		}
		n = n*10 + int(s[i]-'0')
	}
	return n, n <= most
}
