package journal

import (
	"bytes"
	"encoding/binary"
	"hash/crc32"
	"testing"

	"almoner/api"
	"almoner/disk"
)

// sumOf is a sum by the library's own means.
func sumOf(b []byte) uint32 {
	return crc32.Checksum(b, crc32.MakeTable(crc32.Castagnoli))
}

// plainSector is a sector as the document tells it, its length as it is told.
func plainSector(number int64, marks, length byte, data []byte) []byte {
	b := make([]byte, 256)
	binary.LittleEndian.PutUint64(b[4:], uint64(number))
	b[12], b[13] = marks, length
	copy(b[14:], data)
	binary.LittleEndian.PutUint32(b, sumOf(b[4:]))
	return b
}

// piecesOf is a record's bytes in pieces of so many bytes.
func piecesOf(record []byte, size int) [][]byte {
	whole := append(binary.LittleEndian.AppendUint32(nil, sumOf(record)), record...)
	var parts [][]byte
	for len(whole) > size {
		parts = append(parts, whole[:size])
		whole = whole[size:]
	}
	return append(parts, whole)
}

// plainRecord is the sectors of a record from a number on, as the document tells them.
func plainRecord(number int64, record []byte) [][]byte {
	return plainPieces(number, piecesOf(record, 242))
}

// plainPieces is the sectors of these pieces, the first and the last one marked so.
func plainPieces(number int64, parts [][]byte) [][]byte {
	var sectors [][]byte
	for i, p := range parts {
		marks := byte(0)
		if i == 0 {
			marks++
		}
		if i == len(parts)-1 {
			marks += 2
		}
		sectors = append(sectors, plainSector(number+int64(i), marks, byte(len(p)), p))
	}
	return sectors
}

func newDisk(t *testing.T, sectors int) *disk.Disk {
	t.Helper()
	d, why := disk.New(sectors)
	if why != api.OK {
		t.Fatalf("disk.New(%d): %d", sectors, why)
	}
	return d
}

// lay writes sectors of a ring that is the whole disk, from a number on, and makes them safe.
func lay(t *testing.T, d *disk.Disk, number int64, sectors ...[]byte) {
	t.Helper()
	for i, b := range sectors {
		if why := d.Write(int(number-1+int64(i))%d.Size(), b); why != api.OK {
			t.Fatalf("Write: %d", why)
		}
	}
	if why := d.Sync(); why != api.OK {
		t.Fatalf("Sync: %d", why)
	}
}

func mustOpen(t *testing.T, d *disk.Disk, from, size int, next int64) (*Journal, [][]byte) {
	t.Helper()
	j, records, why := Open(d, from, size, next)
	if j == nil || why != api.OK {
		t.Fatalf("Open(%d, %d, %d): %v %d", from, size, next, j, why)
	}
	return j, records
}

func mustAppend(t *testing.T, j *Journal, b []byte) {
	t.Helper()
	if why := j.Append(b); why != api.OK {
		t.Fatalf("Append of %d bytes: %d", len(b), why)
	}
}

func mustSync(t *testing.T, j *Journal) {
	t.Helper()
	if why := j.Sync(); why != api.OK {
		t.Fatalf("Sync: %d", why)
	}
}

func mustTrim(t *testing.T, j *Journal, start int64) {
	t.Helper()
	if why := j.Trim(start); why != api.OK {
		t.Fatalf("Trim(%d): %d", start, why)
	}
}

// wantRecords holds records against texts.
func wantRecords(t *testing.T, got [][]byte, want ...string) {
	t.Helper()
	same := len(got) == len(want)
	for i := 0; same && i < len(got); i++ {
		same = string(got[i]) == want[i]
	}
	if !same {
		t.Errorf("the records are %.60q, want %.60q", got, want)
	}
}

func wantBounds(t *testing.T, j *Journal, start, next int64) {
	t.Helper()
	if j.Start() != start || j.Next() != next {
		t.Errorf("Start %d, Next %d; want %d, %d", j.Start(), j.Next(), start, next)
	}
}

func wantSector(t *testing.T, d *disk.Disk, n int, want []byte) {
	t.Helper()
	if got, why := d.Read(n); why != api.OK || !bytes.Equal(got, want) {
		t.Errorf("the sector %d is %x with %d, want %x", n, got, why, want)
	}
}

func text(c byte, n int) []byte {
	return bytes.Repeat([]byte{c}, n)
}
