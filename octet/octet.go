// Package octet is layer 1: numbers in bytes, the highest byte first, as they go over the wire.
package octet

import (
	"bytes"

	"culvert/api"
)

// Put8 answers b with each of l behind it, in one byte (P1.1).
func Put8(b []byte, l ...uint8) []byte {
	return append(withRoom(b, len(l)), l...)
}

// Put16 answers b with each of l behind it, in two bytes (P1.1).
func Put16(b []byte, l ...uint16) []byte {
	out := withRoom(b, 2*len(l))
	for _, v := range l {
		out = append(out, byte(v>>8), byte(v))
	}
	return out
}

// Put32 answers b with each of l behind it, in four bytes (P1.1).
func Put32(b []byte, l ...uint32) []byte {
	out := withRoom(b, 4*len(l))
	for _, v := range l {
		out = append(out, byte(v>>24), byte(v>>16), byte(v>>8), byte(v))
	}
	return out
}

// PutBytes answers b with each of l behind it, as it is (P1.1).
func PutBytes(b []byte, l ...[]byte) []byte {
	n := 0
	for _, v := range l {
		n += len(v)
	}
	out := withRoom(b, n)
	for _, v := range l {
		out = append(out, v...)
	}
	return out
}

// withRoom copies b even where it has room to spare: else two answers behind one b, or one of l that lies in that room, would run into each other.
func withRoom(b []byte, n int) []byte {
	return append(make([]byte, 0, len(b)+n), b...)
}

// Reader goes through bytes. The place of its error is not kept apart: from the error on the reader does not move.
type Reader struct {
	p   []byte
	at  int
	why api.Errno
}

// New answers a reader of the bytes of p as they are now (P1.2).
func New(p []byte) *Reader {
	return &Reader{p: bytes.Clone(p)}
}

// U8 reads a number of one byte (P1.3).
func (r *Reader) U8() uint8 { return uint8(r.number(1)) }

// U16 reads a number of two bytes (P1.3).
func (r *Reader) U16() uint16 { return uint16(r.number(2)) }

// U32 reads a number of four bytes (P1.3).
func (r *Reader) U32() uint32 { return r.number(4) }

// Bytes reads n bytes (P1.3).
func (r *Reader) Bytes(n int) []byte { return bytes.Clone(r.take(n)) }

// Rest reads all that are left (P1.3).
func (r *Reader) Rest() []byte { return r.Bytes(r.Left()) }

// number is 0 where take has nothing to give.
func (r *Reader) number(n int) uint32 {
	var v uint32
	for _, c := range r.take(n) {
		v = v<<8 | uint32(c)
	}
	return v
}

// take answers a part of the reader's own bytes: who hands it out copies it.
func (r *Reader) take(n int) []byte {
	if r == nil || r.why != api.OK {
		return nil
	}
	if n < 0 {
		r.Fail(api.ErrArg)
		return nil
	}
	if n > r.Left() { // not at+n > len: that may go round
		r.Fail(api.ErrShort)
		return nil
	}
	from := r.at
	r.at += n
	return r.p[from:r.at]
}

// At tells the place (P1.4).
func (r *Reader) At() int {
	if r == nil {
		return 0
	}
	return r.at
}

// Left tells how many bytes are left, behind an error too (P1.4).
func (r *Reader) Left() int {
	if r == nil {
		return 0
	}
	return len(r.p) - r.at
}

// Why tells the error and its place (P1.4).
func (r *Reader) Why() (api.Errno, int) {
	if r == nil || r.why == api.OK {
		return api.OK, 0
	}
	return r.why, r.at
}

// Fail makes e the reader's error, if it has none yet (P1.4).
func (r *Reader) Fail(e api.Errno) {
	if r != nil && r.why == api.OK {
		r.why = e
	}
}

// Done tells whether all was read without an error; that bytes are left is not kept as an error (P1.4).
func (r *Reader) Done() api.Errno {
	e, _ := r.Why()
	if e == api.OK && r.Left() > 0 {
		return api.ErrTail
	}
	return e
}
