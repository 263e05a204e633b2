// Package bits encodes integers and byte strings, and adds and multiplies with a check: see doc/01-bits.md.
package bits

import "antipode/api"

const (
	maxPut  = 8       // bytes of an uint64
	maxVar  = 10      // bytes of the longest varint: 64 bits, seven in each
	maxText = 1 << 20 // bytes of a byte string that TakeText accepts
	more    = 1 << 7  // marks a byte of a varint that another one follows
	top     = 1 << 63 // the distance by which Order shifts the numbers up
	least   = -1 << 63
)

// Put returns b followed by v as n bytes, the highest first.
func Put(b []byte, v uint64, n int) ([]byte, api.Errno) {
	if n < 1 || n > maxPut {
		return nil, api.ErrArg
	}
	if v>>(8*n) != 0 {
		return nil, api.ErrRange
	}
	out := withRoom(b, n)
	for i := n - 1; i >= 0; i-- {
		out = append(out, byte(v>>(8*i)))
	}
	return out, api.OK
}

// Get returns the number that Put wrote as the n bytes of b from at on.
func Get(b []byte, at, n int) (uint64, api.Errno) {
	if n < 1 || n > maxPut || at < 0 {
		return 0, api.ErrArg
	}
	// Not at+n > len(b): that sum may wrap round.
	if at > len(b)-n {
		return 0, api.ErrShort
	}
	v := uint64(0)
	for _, c := range b[at : at+n] {
		v = v<<8 | uint64(c)
	}
	return v, api.OK
}

// Var returns b followed by v as a varint.
func Var(b []byte, v uint64) []byte {
	return appendVar(withRoom(b, maxVar), v)
}

// TakeVar decodes the varint at the beginning of b; n is its length.
func TakeVar(b []byte) (v uint64, n int, e api.Errno) {
	for i, c := range b {
		// Nine bytes hold 63 bits, so the tenth has room for one, and none may follow it.
		if i == maxVar-1 && c > 1 {
			return 0, 0, api.ErrRange
		}
		v |= uint64(c&^more) << (7 * i)
		if c >= more {
			continue
		}
		// A last byte 0 adds nothing: the same number has a shorter varint.
		if c == 0 && i > 0 {
			return 0, 0, api.ErrForm
		}
		return v, i + 1, api.OK
	}
	return 0, 0, api.ErrShort
}

// Text returns b followed by the length of s as a varint, and s.
func Text(b, s []byte) []byte {
	out := appendVar(withRoom(b, maxVar+len(s)), uint64(len(s)))
	return append(out, s...)
}

// TakeText decodes the byte string at the beginning of b; n is the length of its whole encoding.
func TakeText(b []byte) (s []byte, n int, e api.Errno) {
	size, head, e := TakeVar(b)
	if e != api.OK {
		return nil, 0, e
	}
	if size > maxText {
		return nil, 0, api.ErrLong
	}
	end := head + int(size)
	if end > len(b) {
		return nil, 0, api.ErrShort
	}
	return withRoom(b[head:end], 0), end, api.OK
}

// Zig maps numbers near 0, of both signs, to small unsigned ones, whose varints are short.
func Zig(v int64) uint64 {
	return uint64(v)<<1 ^ uint64(v>>63)
}

// Zag is the inverse of Zig.
func Zag(u uint64) int64 {
	return int64(u>>1) ^ -int64(u&1)
}

// Order maps numbers to unsigned ones of the same order, so that Put's bytes have that order too.
func Order(v int64) uint64 {
	return uint64(v) + top
}

// Back is the inverse of Order.
func Back(u uint64) int64 {
	return int64(u - top)
}

// Add returns the sum of a and b, or ErrRange.
func Add(a, b int64) (int64, api.Errno) {
	s := a + b
	// Only a sum that wrapped round differs in sign from both numbers.
	if (s^a)&(s^b) < 0 {
		return 0, api.ErrRange
	}
	return s, api.OK
}

// Mul returns the product of a and b, or ErrRange.
func Mul(a, b int64) (int64, api.Errno) {
	if a == 0 {
		return 0, api.OK
	}
	p := a * b
	// The division wraps round just as the product did if least is negated.
	if p/a != b || a == -1 && b == least {
		return 0, api.ErrRange
	}
	return p, api.OK
}

// withRoom copies b, since what a caller keeps behind the end of b must stay as it is.
func withRoom(b []byte, n int) []byte {
	out := make([]byte, len(b), len(b)+n)
	copy(out, b)
	return out
}

func appendVar(b []byte, v uint64) []byte {
	for v >= more {
		b = append(b, byte(v)|more)
		v >>= 7
	}
	return append(b, byte(v))
}
