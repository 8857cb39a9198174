package codec

import (
	"iter"
	"slices"

	"almoner/api"
	"almoner/crc"
)

// sumBytes is how many bytes a frame's sum has.
const sumBytes = 4

// Frame answers p with its length and its sum ahead of it.
func Frame(p []byte) ([]byte, api.Errno) {
	if len(p) > api.MaxBytes {
		return nil, api.ErrSize
	}
	b := addUint(nil, uint64(len(p)))
	b = addSum(b, crc.Sum(p))
	return append(b, p...), api.OK
}

// Unframe answers the bytes of the frame that b is.
func Unframe(b []byte) ([]byte, api.Errno) {
	f, why := cutFrame(b)
	switch {
	case why != api.OK:
		return nil, why
	case len(f.rest) > 0:
		return nil, api.ErrForm
	case !f.sound():
		return nil, api.ErrSum
	}
	return slices.Clone(f.body), api.OK
}

// Frames goes through the bytes of the frames that stand in b, up to the first that is not right.
func Frames(b []byte) iter.Seq[[]byte] {
	// The caller may write into b before the frames are gone through.
	kept := slices.Clone(b)
	return func(yield func([]byte) bool) {
		for f := range cuts(kept) {
			if !f.sound() || !yield(slices.Clone(f.body)) {
				return
			}
		}
	}
}

// cuts goes through the frames that are whole, by their lengths alone.
func cuts(b []byte) iter.Seq[frame] {
	return func(yield func(frame) bool) {
		f, why := cutFrame(b)
		for why == api.OK && yield(f) {
			f, why = cutFrame(f.rest)
		}
	}
}

// frame is a frame's parts as they stand, the sum not yet held against the body, and what stands behind it.
type frame struct {
	sum  []byte
	body []byte
	rest []byte
}

// cutFrame answers the frame that b begins with, its parts in b's memory.
func cutFrame(b []byte) (frame, api.Errno) {
	r := Reader{data: b}
	n := r.Uint()
	switch {
	case r.why != api.OK:
		return frame{}, r.why
	case n > api.MaxBytes:
		return frame{}, api.ErrSize
	}
	rest := b[r.at:]
	end := sumBytes + int(n)
	if len(rest) < end {
		return frame{}, api.ErrShort
	}
	return frame{sum: rest[:sumBytes], body: rest[sumBytes:end], rest: rest[end:]}, api.OK
}

// sound tells whether the sum is the body's.
func (f frame) sound() bool {
	return slices.Equal(f.sum, addSum(nil, crc.Sum(f.body)))
}

// addSum adds a sum, its lowest byte first.
func addSum(b []byte, sum uint32) []byte {
	return append(b, byte(sum), byte(sum>>8), byte(sum>>16), byte(sum>>24))
}
