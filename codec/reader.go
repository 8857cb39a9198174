package codec

import (
	"slices"

	"almoner/api"
)

// lastByte is the place of a number's tenth byte, where only one of 64 bits is left.
const lastByte = 9

// Reader reads bytes from left to right; the first error that it meets stays.
type Reader struct {
	data []byte
	at   int
	why  api.Errno
}

// NewReader answers a Reader of a copy of b.
func NewReader(b []byte) *Reader {
	return &Reader{data: slices.Clone(b)}
}

// Uint reads a number.
func (r *Reader) Uint() uint64 {
	if !r.reads() {
		return 0
	}
	n, width, why := number(r.data[r.at:])
	r.at += width
	r.why = why
	return n
}

// Int reads a signed number.
func (r *Reader) Int() int64 {
	n := r.Uint()
	return int64(n>>1) ^ -int64(n&1)
}

// Bytes reads bytes behind their length.
func (r *Reader) Bytes() []byte {
	return slices.Clone(r.sized())
}

// Text reads a text behind its length.
func (r *Reader) Text() string {
	return string(r.sized())
}

// Bool reads a truth.
func (r *Reader) Bool() bool {
	if !r.reads() {
		return false
	}
	switch {
	case r.at == len(r.data):
		r.why = api.ErrShort
		return false
	case r.data[r.at] > 1:
		r.why = api.ErrForm
		return false
	}
	r.at++
	return r.data[r.at-1] == 1
}

// Count reads how many things follow: at most most, and no more than there are bytes left, as each thing has one at least.
func (r *Reader) Count(most int) int {
	start := r.At()
	n := r.Uint()
	if !r.reads() {
		return 0
	}
	switch {
	case most < 0 || n > uint64(most):
		r.refuse(start, api.ErrSize)
		return 0
	case n > uint64(len(r.data)-r.at):
		r.refuse(start, api.ErrShort)
		return 0
	}
	return int(n)
}

// End answers the error that was met, or ErrForm if bytes are left.
func (r *Reader) End() api.Errno {
	switch {
	case r == nil:
		return api.ErrNil
	case r.why != api.OK:
		return r.why
	case r.at < len(r.data):
		return api.ErrForm
	}
	return api.OK
}

// At answers how many bytes were read.
func (r *Reader) At() int {
	if r == nil {
		return 0
	}
	return r.at
}

// reads tells whether a read can still answer something.
func (r *Reader) reads() bool {
	return r != nil && r.why == api.OK
}

// refuse keeps an error, and goes back to where the read that met it began.
func (r *Reader) refuse(start int, why api.Errno) {
	r.at = start
	r.why = why
}

// sized reads a length and answers so many bytes behind it, in the Reader's own memory: whoever calls it copies them.
func (r *Reader) sized() []byte {
	n := r.Count(api.MaxBytes)
	if !r.reads() {
		return nil
	}
	r.at += n
	return r.data[r.at-n : r.at]
}

// number answers the number that b begins with, and how many bytes it has.
func number(b []byte) (uint64, int, api.Errno) {
	n, width := uint64(0), 0
scan:
	for place, c := range b {
		switch {
		case place == lastByte && c > 1, place > 0 && c == 0:
			return 0, 0, api.ErrForm
		case c <= low7:
			n |= uint64(c) << (7 * place)
			width = place + 1
			break scan
		}
		n |= uint64(c&low7) << (7 * place)
	}
	if width == 0 {
		return 0, 0, api.ErrShort
	}
	return n, width, api.OK
}
