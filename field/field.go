// Package field puts numbers of fixed widths and texts one behind the other, and reads them again.
package field

import (
	"math/bits"
	"slices"

	"ambry/api"
)

// word is a number of one of the widths that a field may have.
type word interface {
	uint8 | uint16 | uint32 | uint64
}

// bytesOf tells how many bytes the field of a word has.
func bytesOf[W word]() int {
	return bits.Len64(uint64(^W(0))) / 8
}

// eachByte goes through the bytes of a word's field, the highest one first: it hands on how many bits of the word stand below each.
func eachByte[W word](do func(below int)) {
	count := bytesOf[W]()
	for i := range count {
		do(8 * (count - 1 - i))
	}
}

// putWord puts a word's field behind a copy of b, with room for so many bytes more: what stands behind the end of b is not ours to write.
func putWord[W word](b []byte, n W, room int) []byte {
	own := make([]byte, len(b), len(b)+bytesOf[W]()+room)
	copy(own, b)
	eachByte[W](func(below int) {
		own = append(own, byte(n>>below))
	})
	return own
}

// Put8 puts the 8-bit field of n behind b.
func Put8(b []byte, n int) []byte {
	return putWord(b, uint8(n), 0)
}

// Put16 puts the 16-bit field of n behind b.
func Put16(b []byte, n int) []byte {
	return putWord(b, uint16(n), 0)
}

// Put32 puts the 32-bit field of n behind b.
func Put32(b []byte, n int) []byte {
	return putWord(b, uint32(n), 0)
}

// Put64 puts the 64-bit field of n behind b.
func Put64(b []byte, n int) []byte {
	return putWord(b, uint64(n), 0)
}

// PutText puts a text behind b: how many bytes it has, and these.
func PutText(b []byte, s string) []byte {
	return append(putWord(b, uint32(len(s)), len(s)), s...)
}

// Reader reads what was put, from the first byte on.
type Reader struct {
	made bool
	b    []byte
	at   int
	err  api.Errno
}

// NewReader tells a reader of a copy of b, so that it reads the same whatever becomes of b.
func NewReader(b []byte) *Reader {
	return &Reader{made: true, b: slices.Clone(b)}
}

// readWord reads the field of a word; with an error it reads none, and is 0.
func readWord[W word](r *Reader) W {
	if r.Err() != api.OK {
		return 0
	}
	if len(r.b)-r.at < bytesOf[W]() {
		r.err = api.ErrShort
		return 0
	}
	var n W
	eachByte[W](func(below int) {
		n |= W(r.b[r.at]) << below
		r.at++
	})
	return n
}

// U8 reads the number of the next byte.
func (r *Reader) U8() int {
	return int(readWord[uint8](r))
}

// U16 reads the number of the next 2 bytes.
func (r *Reader) U16() int {
	return int(readWord[uint16](r))
}

// U32 reads the number of the next 4 bytes.
func (r *Reader) U32() int {
	return int(readWord[uint32](r))
}

// I64 reads the number of the next 8 bytes, in two's complement.
func (r *Reader) I64() int {
	return int(readWord[uint64](r))
}

// Text reads a text of at most so many bytes.
func (r *Reader) Text(most int) string {
	start := r.At()
	size := r.U32()
	if r.Err() != api.OK {
		return ""
	}
	if size > max(most, 0) {
		return r.refuse(start, api.ErrBig)
	}
	if size > len(r.b)-r.at {
		return r.refuse(start, api.ErrShort)
	}
	text := string(r.b[r.at : r.at+size])
	r.at += size
	return text
}

// refuse lets the reader stand ahead of a text that can't be read, though the text's length was.
func (r *Reader) refuse(start int, why api.Errno) string {
	r.at, r.err = start, why
	return ""
}

// At tells where the reader stands.
func (r *Reader) At() int {
	if r == nil {
		return 0
	}
	return r.at
}

// Err tells why nothing more is read, or OK.
func (r *Reader) Err() api.Errno {
	if r == nil || !r.made {
		return api.ErrNil
	}
	return r.err
}

// End tells whether all was read, and nothing is left.
func (r *Reader) End() api.Errno {
	if r.Err() != api.OK {
		return r.Err()
	}
	if r.at < len(r.b) {
		return api.ErrBig
	}
	return api.OK
}
