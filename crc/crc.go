// Package crc is layer 1: sums of bytes, by CRC-32C.
package crc

import (
	"iter"
	"math/bits"

	"almoner/api"
)

const (
	// polynomial has the coefficient of x^31 in its lowest bit, and x^32 left out: bytes go in lowest bit first.
	polynomial = 0x82f63b78
	// oneByte is x^8 in that order of bits: what a sum is multiplied by for each byte behind it.
	oneByte = 1 << 23
	// mostJoined is how many bytes a piece that is joined may have.
	mostJoined = 1 << 40
)

// lowHalf and highHalf say what the register becomes by a byte of which only that half is set: a byte is then two looks instead of eight steps.
var (
	lowHalf = [16]uint32{
		0x00000000, 0xf26b8303, 0xe13b70f7, 0x1350f3f4,
		0xc79a971f, 0x35f1141c, 0x26a1e7e8, 0xd4ca64eb,
		0x8ad958cf, 0x78b2dbcc, 0x6be22838, 0x9989ab3b,
		0x4d43cfd0, 0xbf284cd3, 0xac78bf27, 0x5e133c24,
	}
	highHalf = [16]uint32{
		0x00000000, 0x105ec76f, 0x20bd8ede, 0x30e349b1,
		0x417b1dbc, 0x5125dad3, 0x61c69362, 0x7198540d,
		0x82f63b78, 0x92a8fc17, 0xa24bb5a6, 0xb21572c9,
		0xc38d26c4, 0xd3d3e1ab, 0xe330a81a, 0xf36e6f75,
	}
)

// Sum answers the CRC-32C of b.
func Sum(b []byte) uint32 {
	return More(0, b)
}

// More answers the sum of bytes whose sum is known, and b behind them.
func More(sum uint32, b []byte) uint32 {
	register := ^sum
	for _, c := range b {
		mixed := byte(register) ^ c
		register = register>>8 ^ lowHalf[mixed&15] ^ highHalf[mixed>>4]
	}
	return ^register
}

// Join answers the sum of two pieces one behind the other, by their sums a and b and the second one's length n.
func Join(a, b uint32, n int64) (uint32, api.Errno) {
	if n < 0 || n > mostJoined {
		return 0, api.ErrArg
	}
	return past(a, uint64(n)) ^ b, api.OK
}

// Slot answers the slot of an account's name.
func Slot(name string) int {
	return int(Sum([]byte(name)) % api.Slots)
}

// past multiplies a sum by x^(8n), by squaring: n may be far too great to go byte by byte.
func past(sum uint32, n uint64) uint32 {
	power := uint32(oneByte)
walk:
	for place, set := range places(n) {
		switch {
		case n>>place == 0:
			break walk
		case set:
			sum = times(sum, power)
		}
		power = times(power, power)
	}
	return sum
}

// times multiplies two polynomials modulo the CRC's one.
func times(a, b uint32) uint32 {
	// x^0 stands in the highest bit, and the walk begins with the lowest one.
	rising := uint64(bits.Reverse32(a))
	product := uint32(0)
walk:
	for place, set := range places(rising) {
		switch {
		case rising>>place == 0:
			break walk
		case set:
			product ^= b
		}
		b = timesX(b)
	}
	return product
}

// timesX multiplies a polynomial by x: the step of the sum's definition.
func timesX(p uint32) uint32 {
	if p&1 == 1 {
		return p>>1 ^ polynomial
	}
	return p >> 1
}

// places goes through the bits of a number, the lowest first.
func places(n uint64) iter.Seq2[int, bool] {
	return func(yield func(int, bool) bool) {
		for place := range 64 {
			if !yield(place, n>>place&1 == 1) {
				return
			}
		}
	}
}
