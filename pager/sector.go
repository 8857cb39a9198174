package pager

import (
	"almoner/api"
	"almoner/crc"
)

// sumBytes is how many bytes the sum ahead of a sector's other bytes has.
const sumBytes = api.Sector - Page

// Where the parts of a slot stand, behind its sum.
const (
	genAt    = 0
	pageAt   = genAt + 8
	nextAt   = pageAt + 4
	lengthAt = nextAt + 8
	metaAt   = lengthAt + 1
)

const (
	mostMeta   = 100
	mostNumber = 1 << 60 // of a root's Gen and Next
)

// sealed answers a sector that holds b, with 0 behind it, and the sum of these bytes ahead of them.
func sealed(b []byte) []byte {
	sector := make([]byte, api.Sector)
	body := sector[sumBytes:]
	copy(body, b)
	put(sector[:sumBytes], uint64(crc.Sum(body)))
	return sector
}

// opened answers what a sector holds, in its memory, if its sum is right.
func opened(sector []byte) ([]byte, bool) {
	body := sector[sumBytes:]
	return body, get(sector[:sumBytes]) == uint64(crc.Sum(body))
}

// slotOf answers the sector of the slot that holds a root.
func slotOf(r Root) []byte {
	b := make([]byte, Page)
	put(b[genAt:pageAt], uint64(r.Gen))
	put(b[pageAt:nextAt], uint64(r.Page+1))
	put(b[nextAt:lengthAt], uint64(r.Next))
	b[lengthAt] = byte(len(r.Meta))
	copy(b[metaAt:], r.Meta)
	return sealed(b)
}

// rootOf answers the root that the sector of a slot holds, if it is right for so many pages.
func rootOf(sector []byte, pages int) (Root, bool) {
	b, right := opened(sector)
	gen, page, next := get(b[genAt:pageAt]), get(b[pageAt:nextAt]), get(b[nextAt:lengthAt])
	length := int(b[lengthAt])
	switch {
	case !right || gen < 1 || gen > mostNumber:
		return Root{}, false
	case page > uint64(pages) || next < 1 || next > mostNumber || length > mostMeta:
		return Root{}, false
	}
	end := metaAt + length
	return Root{Gen: int64(gen), Page: int(page) - 1, Next: int64(next), Meta: b[metaAt:end:end]}, true
}

// put writes a number into all of b, its lowest byte first.
func put(b []byte, n uint64) {
	for i := range b {
		b[i] = byte(n >> (8 * i))
	}
}

// get answers the number that all of b is, its lowest byte first.
func get(b []byte) uint64 {
	n := uint64(0)
	for i, c := range b {
		n |= uint64(c) << (8 * i)
	}
	return n
}
