// Package octet is layer 1: numbers and texts as bytes. See shared/doc/01-octet.md.
package octet

// longest is how many bytes a number needs at most: nine times seven bits, and one bit more.
const longest = 10

// more is the bit that says that another byte of the number follows.
const more = 0x80

// Reader is bytes that are still to be read.
type Reader struct {
	left []byte
	bad  bool
}

// Put answers b, and behind it the bytes of n.
func Put(b []byte, n uint64) []byte {
	return own(putNumber(copyWithRoom(b, longest), n))
}

// Text answers b, and behind it the bytes of s.
func Text(b []byte, s string) []byte {
	out := putNumber(copyWithRoom(b, longest+len(s)), uint64(len(s)))
	return own(append(out, s...))
}

// New answers a reader of all of b.
func New(b []byte) *Reader {
	// The reader keeps a copy: what the caller writes into b later must not be read.
	return &Reader{left: copyWithRoom(b, 0)}
}

// N answers the number that stands next.
func (r *Reader) N() uint64 {
	return r.atMost(1<<64 - 1)
}

// Int answers the number that stands next, if it is at most most.
func (r *Reader) Int(most int) int {
	return int(r.atMostInt(most))
}

// Text answers the text that stands next, if it has at most most bytes.
func (r *Reader) Text(most int) string {
	n := r.atMostInt(most)
	if n > uint64(r.Left()) {
		r.spoil()
		return ""
	}
	return string(r.take(int(n)))
}

// Flag tells whether the number that stands next, 0 or 1, is 1.
func (r *Reader) Flag() bool {
	return r.atMost(1) == 1
}

// Left answers how many bytes are to be read.
func (r *Reader) Left() int {
	if r.Bad() {
		return 0
	}
	return len(r.left)
}

// Bad tells whether something could not be read; a nil reader is bad.
func (r *Reader) Bad() bool {
	return r == nil || r.bad
}

// Done tells whether all was read, and all of it was right.
func (r *Reader) Done() bool {
	return !r.Bad() && len(r.left) == 0
}

// atMostInt is atMost for a bound with a sign: no number is at most a negative one.
func (r *Reader) atMostInt(most int) uint64 {
	if most < 0 {
		r.spoil()
		return 0
	}
	return r.atMost(uint64(most))
}

func (r *Reader) atMost(most uint64) uint64 {
	if r.Bad() {
		return 0
	}
	n, size := number(r.left)
	if size == 0 || n > most {
		r.spoil()
		return 0
	}
	r.take(size)
	return n
}

// take reads the next n bytes, which must be there; of a bad reader there are none.
func (r *Reader) take(n int) []byte {
	if r.Bad() {
		return nil
	}
	told := r.left[:n:n]
	r.left = r.left[n:]
	return told
}

func (r *Reader) spoil() {
	if r == nil {
		return
	}
	r.left, r.bad = nil, true
}

// number answers the number whose bytes stand first in b, and how many they are: 0 of them if there is no such number.
func number(b []byte) (n uint64, size int) {
	for i, x := range b {
		// Nine bytes have left room for one bit only, and for no byte behind it.
		if i == longest-1 && x > 1 {
			return 0, 0
		}
		n |= uint64(x&^more) << (7 * i)
		if x >= more {
			continue
		}
		// A last byte of 0 adds nothing: the number has shorter bytes, and those alone are its own.
		if x == 0 && i > 0 {
			return 0, 0
		}
		return n, i + 1
	}
	return 0, 0
}

func putNumber(b []byte, n uint64) []byte {
	for n >= more {
		b = append(b, byte(n)|more)
		n >>= 7
	}
	return append(b, byte(n))
}

func copyWithRoom(b []byte, room int) []byte {
	return append(make([]byte, 0, len(b)+room), b...)
}

// own takes the room behind b away, so that whoever appends to an answer gets other memory.
func own(b []byte) []byte {
	return b[:len(b):len(b)]
}
