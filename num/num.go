// Package num is layer 1: numbers and texts as bytes. See shared/doc/01-num.md.
package num

import (
	"bytes"

	"ciborium/api"
)

// widest is how many bytes a fixed number has at most.
const widest = 8

// A number in groups of seven bits: the tenth group begins at bit 63, so that it has one bit alone.
const (
	group     = 7
	more      = 1 << group // stands in each byte but the last one
	lastGroup = 9
	lastMost  = 1
)

// Put answers out with the lowest width bytes of n behind it, the lowest first; of a width that isn't from 1 to 8, a copy of out alone.
func Put(out []byte, width int, n uint64) []byte {
	if !fits(width) {
		return cut(bytes.Clone(out))
	}
	all := cut(out)
	for i := range width {
		all = append(all, byte(n>>(8*i)))
	}
	return cut(all)
}

// Get answers the number that Put put, of the width bytes from at on.
func Get(b []byte, at int, width int) (uint64, api.Errno) {
	if !fits(width) || !inside(b, at) {
		return 0, api.ErrArg
	}
	if len(b)-at < width {
		return 0, api.ErrShort
	}
	var n uint64
	for i := range width {
		n |= uint64(b[at+i]) << (8 * i)
	}
	return n, api.OK
}

// PutVar answers out with n behind it in as few bytes as it needs, seven bits each, the lowest first.
func PutVar(out []byte, n uint64) []byte {
	return cut(appendVar(cut(out), n))
}

// Var answers the number that PutVar put at a place, and the place behind it.
func Var(b []byte, at int) (uint64, int, api.Errno) {
	if !inside(b, at) {
		return 0, 0, api.ErrArg
	}
	var n uint64
	for i, x := range b[at:] {
		// A byte 0 at the end adds nothing: the number would stand in fewer bytes.
		if i == lastGroup && x > lastMost || i > 0 && x == 0 {
			return 0, 0, api.ErrForm
		}
		n |= uint64(x%more) << (group * i)
		if x < more {
			return n, at + i + 1, api.OK
		}
	}
	return 0, 0, api.ErrShort
}

// PutText answers out with the length of s, and s, behind it.
func PutText(out []byte, s string) []byte { return putLong(out, s) }

// Text answers the text that PutText put at a place, of at most so many bytes, and the place behind it.
func Text(b []byte, at int, most int) (string, int, api.Errno) {
	x, end, e := long(b, at, most)
	return string(x), end, e
}

// PutBytes answers out with the length of x, and x, behind it.
func PutBytes(out []byte, x []byte) []byte { return putLong(out, x) }

// Bytes answers the bytes that PutBytes put at a place, at most so many, and the place behind them.
func Bytes(b []byte, at int, most int) ([]byte, int, api.Errno) {
	x, end, e := long(b, at, most)
	return cut(bytes.Clone(x)), end, e
}

// fits tells whether a fixed number may have so many bytes.
func fits(width int) bool { return 1 <= width && width <= widest }

// inside tells whether a place is one of b, or its end.
func inside(b []byte, at int) bool { return 0 <= at && at <= len(b) }

// cut answers b without the room behind its end: what is appended to it goes into new memory, and never over what somebody else keeps there.
func cut(b []byte) []byte { return b[:len(b):len(b)] }

// appendVar appends a number to all, which must be cut or its caller's own.
func appendVar(all []byte, n uint64) []byte {
	for n >= more {
		all = append(all, byte(n%more)+more)
		n >>= group
	}
	return append(all, byte(n))
}

// putLong puts a length, and what has it.
func putLong[T string | []byte](out []byte, x T) []byte {
	return cut(append(appendVar(cut(out), uint64(len(x))), x...))
}

// long answers what putLong put, as a part of b that is cut, and the place behind it.
func long(b []byte, at int, most int) ([]byte, int, api.Errno) {
	size, from, e := Var(b, at)
	if e != api.OK {
		return nil, 0, e
	}
	// As numbers without a sign: a size of 2 to 63 and above would be below 0 as an int.
	if size > uint64(max(most, 0)) {
		return nil, 0, api.ErrFull
	}
	if size > uint64(len(b)-from) {
		return nil, 0, api.ErrShort
	}
	end := from + int(size)
	return b[from:end:end], end, api.OK
}
