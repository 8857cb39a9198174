// Package codec is layer 2: what is told and kept, as bytes and back.
package codec

import "slices"

const (
	low7 = 0x7f // the part of a number that a byte holds
	more = 0x80 // the bit of a byte behind which the number goes on
)

// Uint answers b with the number n behind it, in new memory.
func Uint(b []byte, n uint64) []byte {
	return addUint(slices.Clone(b), n)
}

// Int answers b with the signed number n behind it, in new memory.
func Int(b []byte, n int64) []byte {
	return addInt(slices.Clone(b), n)
}

// Bytes answers b with p and its length behind it, in new memory.
func Bytes(b []byte, p []byte) []byte {
	return addBytes(slices.Clone(b), p)
}

// Text answers b with s and its length behind it, in new memory.
func Text(b []byte, s string) []byte {
	return addText(slices.Clone(b), s)
}

// Bool answers b with the truth v behind it, in new memory.
func Bool(b []byte, v bool) []byte {
	return addBool(slices.Clone(b), v)
}

// The add functions write into memory that is the package's own, so that a form of many parts is not copied for each of them.

func addUint(b []byte, n uint64) []byte {
	for n > low7 {
		b = append(b, byte(n)|more)
		n >>= 7
	}
	return append(b, byte(n))
}

func addInt(b []byte, n int64) []byte {
	return addUint(b, uint64(n)<<1^uint64(n>>63))
}

func addBytes(b []byte, p []byte) []byte {
	return append(addUint(b, uint64(len(p))), p...)
}

func addText(b []byte, s string) []byte {
	return append(addUint(b, uint64(len(s))), s...)
}

func addBool(b []byte, v bool) []byte {
	if v {
		return append(b, 1)
	}
	return append(b, 0)
}
