package pager

import (
	"bytes"
	"encoding/binary"
	"hash/crc32"
	"testing"

	"almoner/api"
	"almoner/disk"
)

// plainSeal is a sector that holds body, as the document tells it, by the library's own means.
func plainSeal(body []byte) []byte {
	b := make([]byte, 256)
	copy(b[4:], body)
	binary.LittleEndian.PutUint32(b, crc32.Checksum(b[4:], crc32.MakeTable(crc32.Castagnoli)))
	return b
}

// plainSlot is the sector of a slot, as the document tells it: page is a root's page and one.
func plainSlot(gen uint64, page uint32, next uint64, length byte, meta []byte) []byte {
	b := make([]byte, 252)
	binary.LittleEndian.PutUint64(b[0:], gen)
	binary.LittleEndian.PutUint32(b[8:], page)
	binary.LittleEndian.PutUint64(b[12:], next)
	b[20] = length
	copy(b[21:], meta)
	return plainSeal(b)
}

func newDisk(t *testing.T, sectors int) *disk.Disk {
	t.Helper()
	d, why := disk.New(sectors)
	if why != api.OK {
		t.Fatalf("disk.New(%d): %d", sectors, why)
	}
	return d
}

// lay writes sectors from one on, and makes them safe.
func lay(t *testing.T, d *disk.Disk, from int, sectors ...[]byte) {
	t.Helper()
	for i, b := range sectors {
		if why := d.Write(from+i, b); why != api.OK {
			t.Fatalf("the disk's Write: %d", why)
		}
	}
	if why := d.Sync(); why != api.OK {
		t.Fatalf("the disk's Sync: %d", why)
	}
}

func mustOpen(t *testing.T, d *disk.Disk, from, size int) (*Pager, Root) {
	t.Helper()
	p, r, why := Open(d, from, size)
	if p == nil || why != api.OK {
		t.Fatalf("Open(%d, %d): %v %d", from, size, p, why)
	}
	return p, r
}

// newPager is a pager of so many pages on a disk that has nothing else.
func newPager(t *testing.T, pages int) (*Pager, *disk.Disk) {
	t.Helper()
	d := newDisk(t, pages+2)
	p, _ := mustOpen(t, d, 0, pages+2)
	return p, d
}

// mustWrite writes a page, whose number must be this one.
func mustWrite(t *testing.T, p *Pager, b []byte, page int) {
	t.Helper()
	if got, why := p.Write(b); got != page || why != api.OK {
		t.Fatalf("Write of %.20q: %d, %d; want the page %d", b, got, why, page)
	}
}

func mustFlip(t *testing.T, p *Pager, page int, next int64, meta string, pages ...int) {
	t.Helper()
	if why := p.Flip(page, next, []byte(meta), pages); why != api.OK {
		t.Fatalf("Flip(%d, %d, %q, %v): %d", page, next, meta, pages, why)
	}
}

func mustUse(t *testing.T, p *Pager, pages ...int) {
	t.Helper()
	if why := p.Use(pages); why != api.OK {
		t.Fatalf("Use(%v): %d", pages, why)
	}
}

func same(a, b Root) bool {
	return a.Gen == b.Gen && a.Page == b.Page && a.Next == b.Next && bytes.Equal(a.Meta, b.Meta)
}

func wantRoot(t *testing.T, got Root, gen int64, page int, next int64, meta string) {
	t.Helper()
	if want := (Root{gen, page, next, []byte(meta)}); !same(got, want) {
		t.Errorf("the root is %v, want %v", got, want)
	}
}

// wantStates holds what the pages are against a text: a letter a page, u used, n fresh, . free.
func wantStates(t *testing.T, p *Pager, want string) {
	t.Helper()
	got := ""
	for page := range p.pages {
		got += string(".un"[p.states[page]])
	}
	count := 0
	for _, c := range want {
		if c == '.' {
			count++
		}
	}
	if got != want || p.Free() != count {
		t.Errorf("the pages are %s, of which %d are free; want %s", got, p.Free(), want)
	}
}

// wantPage holds a page against bytes, with 0 behind them.
func wantPage(t *testing.T, p *Pager, page int, b []byte) {
	t.Helper()
	want := make([]byte, 252)
	copy(want, b)
	if got, why := p.Read(page); why != api.OK || !bytes.Equal(got, want) {
		t.Errorf("the page %d is %x with %d, want %x", page, got, why, want)
	}
}

func wantSector(t *testing.T, d *disk.Disk, n int, want []byte) {
	t.Helper()
	if got, why := d.Read(n); why != api.OK || !bytes.Equal(got, want) {
		t.Errorf("the sector %d is %x with %d, want %x", n, got, why, want)
	}
}
