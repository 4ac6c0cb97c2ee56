// Package wire is layer 1: numbers as bytes, the highest byte first, and back.
package wire

import (
	"math/bits"

	"viaduct/api"
)

// number is any of the widths that go over the wire.
type number interface {
	uint8 | uint16 | uint32 | uint64
}

// width is how many bytes a number of the type has.
func width[T number]() int {
	return bits.Len64(uint64(^T(0))) / 8
}

// Put answers the bytes, and behind them those of the number.
//
// The answer is memory of its own: if it stood in the spare room of b, a
// second Put behind the same bytes would write over the first one's number.
func Put[T uint8 | uint16 | uint32 | uint64](b []byte, n T) []byte {
	w := width[T]()
	out := append(make([]byte, 0, len(b)+w), b...)
	for i := range w {
		out = append(out, byte(n>>(8*(w-1-i))))
	}
	return out
}

// Reader goes through a text from its beginning. Its first error stays, and
// from then on nothing is gone over.
type Reader struct {
	rest string // what is not gone over
	err  api.Errno
}

// Of is a reader of a text.
func Of(s string) *Reader { return &Reader{rest: s} }

// U8 is the next number of one byte.
func (r *Reader) U8() uint8 { return next[uint8](r) }

// U16 is the next number of two bytes.
func (r *Reader) U16() uint16 { return next[uint16](r) }

// U32 is the next number of four bytes.
func (r *Reader) U32() uint32 { return next[uint32](r) }

// U64 is the next number of eight bytes.
func (r *Reader) U64() uint64 { return next[uint64](r) }

// Text is the next n bytes; below 0 none.
func (r *Reader) Text(n int) string { return r.take(max(n, 0)) }

// Rest is all that is left.
func (r *Reader) Rest() string { return r.take(r.Left()) }

// Bad says that the bytes have not the form, if nothing was wrong before.
func (r *Reader) Bad() { r.fail(api.ErrForm) }

// Left is how many bytes are not gone over; with an error 0.
func (r *Reader) Left() int {
	if r.Err() != api.OK {
		return 0
	}
	return len(r.rest)
}

// Err is the error, or OK.
func (r *Reader) Err() api.Errno {
	if r == nil {
		return api.ErrNil
	}
	return r.err
}

// End is the error; bytes that are left are one, which stays.
func (r *Reader) End() api.Errno {
	if r.Left() > 0 {
		r.Bad()
	}
	return r.Err()
}

// next is the number whose bytes come next, or 0, if they are not there.
func next[T number](r *Reader) T {
	var n uint64 // not T: a byte can't be shifted by its whole width
	s := r.take(width[T]())
	for i := range len(s) {
		n = n<<8 | uint64(s[i])
	}
	return T(n)
}

// take goes over n bytes, n not below 0, or over none of them.
func (r *Reader) take(n int) string {
	if r.Err() != api.OK {
		return ""
	}
	if n > len(r.rest) {
		r.fail(api.ErrShort)
		return ""
	}
	s := r.rest[:n]
	r.rest = r.rest[n:]
	return s
}

// fail keeps an error, unless there is one: the first one stays.
func (r *Reader) fail(e api.Errno) {
	if r.Err() == api.OK {
		r.err = e
	}
}
