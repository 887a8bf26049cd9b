// Package octet is layer 1: numbers as bytes, the lowest first, and a Reader that takes them back. See 01-octet.md.
package octet

import (
	"slices"

	"paintbox/api"
)

// place is where a Reader stands: at is how many bytes lie behind it.
type place struct {
	at int
}

// Reader goes through bytes; behind its first error it stands still.
type Reader struct {
	place
	bytes []byte
	err   api.Errno
}

// Put16 answers the bytes of b and the two of x.
func Put16(b []byte, x uint16) []byte {
	return put(b, uint32(x), 2)
}

// Put32 answers the bytes of b and the four of x.
func Put32(b []byte, x uint32) []byte {
	return put(b, x, 4)
}

// put makes the list anew: an append to b could write into the room behind its end.
func put(b []byte, x uint32, n int) []byte {
	out := make([]byte, 0, len(b)+n)
	out = append(out, b...)
	for range n {
		out = append(out, byte(x))
		x >>= 8
	}
	return out
}

// Read makes a Reader of a copy, so that a later change of b is not read.
func Read(b []byte) *Reader {
	return &Reader{bytes: slices.Clone(b)}
}

// U8 answers the next byte.
func (r *Reader) U8() byte {
	return byte(r.number(1))
}

// U16 answers the next two bytes as a number.
func (r *Reader) U16() uint16 {
	return uint16(r.number(2))
}

// U32 answers the next four bytes as a number.
func (r *Reader) U32() uint32 {
	return r.number(4)
}

// I8 answers the next byte as a signed number.
func (r *Reader) I8() int8 {
	return int8(r.U8())
}

// I16 answers the next two bytes as a signed number.
func (r *Reader) I16() int16 {
	return int16(r.U16())
}

// I32 answers the next four bytes as a signed number.
func (r *Reader) I32() int32 {
	return int32(r.U32())
}

// Raw answers the next n bytes.
func (r *Reader) Raw(n int) []byte {
	return slices.Clone(r.take(n))
}

// Skip passes over the next n bytes.
func (r *Reader) Skip(n int) {
	r.take(n)
}

// Left answers how many bytes are left, behind an error too.
func (r *Reader) Left() int {
	if r == nil {
		return 0
	}
	return len(r.bytes) - r.at
}

// Err answers the Reader's error.
func (r *Reader) Err() api.Errno {
	if r == nil {
		return api.ErrNil
	}
	return r.err
}

// number answers the next n bytes as a number, or 0 if there are none to take.
func (r *Reader) number(n int) uint32 {
	var x uint32
	for i, c := range r.take(n) {
		x |= uint32(c) << (8 * i)
	}
	return x
}

// take passes over n bytes and answers them, or remembers why it could not. They are the Reader's own: who hands them out copies them.
func (r *Reader) take(n int) []byte {
	if r.Err() != api.OK {
		return nil
	}
	if n < 0 {
		r.err = api.ErrArg
		return nil
	}
	if n > r.Left() {
		r.err = api.ErrShort
		return nil
	}
	from := r.at
	r.at += n
	return r.bytes[from:r.at]
}
