package journal

import (
	"almoner/api"
	"almoner/crc"
)

// Where the parts of a sector stand, behind its sum.
const (
	sumBytes  = 4
	numberAt  = sumBytes
	marksAt   = numberAt + 8
	lengthAt  = marksAt + 1
	pieceAt   = lengthAt + 1
	mostPiece = api.Sector - pieceAt
)

// The marks of a piece.
const (
	first = 1
	last  = 2
)

// piece is what a sector holds of a record's bytes.
type piece struct {
	marks byte
	data  []byte
}

// has tells whether a piece has a mark.
func (p piece) has(mark byte) bool {
	return p.marks&mark != 0
}

// sector answers the bytes of the sector of a number that holds the piece.
func (p piece) sector(s int64) []byte {
	b := make([]byte, api.Sector)
	put(b[numberAt:marksAt], uint64(s))
	b[marksAt] = p.marks
	b[lengthAt] = byte(len(p.data))
	copy(b[pieceAt:], p.data)
	put(b[:sumBytes], uint64(crc.Sum(b[sumBytes:])))
	return b
}

// pieceOf answers the piece that a sector holds, in the sector's memory, if it is right as the number s. The sum comes last, as it takes longest.
func pieceOf(sector []byte, s int64) (piece, bool) {
	marks, length := sector[marksAt], int(sector[lengthAt])
	switch {
	case get(sector[numberAt:marksAt]) != uint64(s):
		return piece{}, false
	case marks > first+last || length < 1 || length > mostPiece:
		return piece{}, false
	case get(sector[:sumBytes]) != uint64(crc.Sum(sector[sumBytes:])):
		return piece{}, false
	}
	end := pieceAt + length
	return piece{marks: marks, data: sector[pieceAt:end:end]}, true
}

// pieces answers a record's bytes, its sum ahead of it, cut such that no piece can grow into the one behind it.
func pieces(record []byte) []piece {
	whole := make([]byte, sumBytes+len(record))
	put(whole[:sumBytes], uint64(crc.Sum(record)))
	copy(whole[sumBytes:], record)
	var parts []piece
	for at := 0; at < len(whole); at += mostPiece {
		end := min(at+mostPiece, len(whole))
		parts = append(parts, piece{data: whole[at:end:end]})
	}
	parts[0].marks |= first
	parts[len(parts)-1].marks |= last
	return parts
}

// sectorsOf answers how many pieces a record of so many bytes has.
func sectorsOf(size int) int {
	return (sumBytes + size + mostPiece - 1) / mostPiece
}

// checked answers the record that has these bytes, if its sum is right.
func checked(whole []byte) ([]byte, bool) {
	if len(whole) < sumBytes || len(whole) > sumBytes+api.MaxRecord {
		return nil, false
	}
	record := whole[sumBytes:]
	return record, get(whole[:sumBytes]) == uint64(crc.Sum(record))
}

// put writes a number into all of b, its lowest byte first.
func put(b []byte, n uint64) {
	for i := range b {
		b[i] = byte(n >> (8 * i))
	}
}

// get answers the number that all of b is, its lowest byte first.
func get(b []byte) uint64 {
	n := uint64(0)
	for i, c := range b {
		n |= uint64(c) << (8 * i)
	}
	return n
}
