package pager

import (
	"bytes"
	"math"
	"testing"

	"almoner/api"
	"almoner/disk"
)

// P5.1, P1: what Open refuses, in the order of its errors.
func TestErrorsOfOpen(t *testing.T) {
	d := newDisk(t, 8)
	for _, c := range []struct {
		name       string
		d          *disk.Disk
		from, size int
		want       api.Errno
	}{
		{"no disk", nil, 0, 4, api.ErrNil},
		{"no disk, and nothing right", nil, -1, 0, api.ErrNil},
		{"a disk of no sectors", new(disk.Disk), 0, 3, api.ErrArg},
		{"from below 0", d, -1, 4, api.ErrArg},
		{"the least from", d, math.MinInt, 4, api.ErrArg},
		{"the least from and the greatest size", d, math.MinInt, math.MaxInt, api.ErrArg},
		{"from behind the disk", d, 9, 3, api.ErrArg},
		{"from at the disk's end", d, 8, 3, api.ErrArg},
		{"from too near the disk's end", d, 6, 3, api.ErrArg},
		{"the greatest from", d, math.MaxInt, 3, api.ErrArg},
		{"the greatest from and size", d, math.MaxInt, math.MaxInt, api.ErrArg},
		{"no size", d, 0, 0, api.ErrArg},
		{"no page", d, 0, 2, api.ErrArg},
		{"size below 0", d, 0, -3, api.ErrArg},
		{"the least size", d, 0, math.MinInt, api.ErrArg},
		{"one sector too many", d, 0, 9, api.ErrArg},
		{"one sector too many behind from", d, 3, 6, api.ErrArg},
		{"the greatest size", d, 1, math.MaxInt, api.ErrArg},
		{"the whole disk", d, 0, 8, api.OK},
		{"one page at the end", d, 5, 3, api.OK},
	} {
		p, r, why := Open(c.d, c.from, c.size)
		if why != c.want || (p == nil) != (why != api.OK) {
			t.Errorf("%s: %v, %d; want %d", c.name, p, why, c.want)
		}
		if why != api.OK {
			wantRoot(t, r, 0, 0, 0, "")
			continue
		}
		wantRoot(t, r, 0, -1, 1, "")
		wantRoot(t, p.Root(), 0, -1, 1, "")
		if p.Free() != c.size-2 || p.Dead() {
			t.Errorf("%s: %d free, dead %v", c.name, p.Free(), p.Dead())
		}
	}
	if d.Unsynced() != 0 || !bytes.Equal(d.Image(), make([]byte, 8*256)) {
		t.Error("Open writes")
	}
}

// P5.1, P1: the greatest disk has a pager of all its sectors, each of whose pages can be written.
func TestGreatestPager(t *testing.T) {
	p, _ := newPager(t, 4094)
	for page := range 4094 {
		mustWrite(t, p, []byte{byte(page), byte(page >> 8)}, page)
	}
	if _, why := p.Write(nil); why != api.ErrFull || p.Free() != 0 {
		t.Errorf("Write: %d, of %d free", why, p.Free())
	}
	wantPage(t, p, 4093, []byte{0xfd, 0x0f})
	mustFlip(t, p, 4093, 1, "", 4093, 0)
	if p.Free() != 4092 {
		t.Errorf("%d are free", p.Free())
	}
}

// P5.1, P1: a nil pager answers ErrNil, 0, false, the zero Root, at all arguments.
func TestNilPager(t *testing.T) {
	var p *Pager
	b, read := p.Read(-1)
	n, write := p.Write(make([]byte, 253))
	for name, why := range map[string]api.Errno{
		"Use":     p.Use([]int{-1}),
		"Read":    read,
		"Write":   write,
		"Release": p.Release(-1),
		"Flip":    p.Flip(-2, 0, make([]byte, 101), []int{-1}),
	} {
		if why != api.ErrNil {
			t.Errorf("%s of nil: %d", name, why)
		}
	}
	if b != nil || n != 0 || p.Free() != 0 || p.Dead() {
		t.Errorf("of nil: %v, %d, %d, %v", b, n, p.Free(), p.Dead())
	}
	wantRoot(t, p.Root(), 0, 0, 0, "")
}

// P1: a pager that nobody has opened has no pages; no call of it panics.
func TestZeroPager(t *testing.T) {
	p := new(Pager)
	b, read := p.Read(0)
	n, write := p.Write(nil)
	if b != nil || read != api.ErrArg || n != 0 || write != api.ErrFull || p.Free() != 0 {
		t.Errorf("%v %d, %d %d, %d", b, read, n, write, p.Free())
	}
	if use, release := p.Use([]int{0}), p.Release(0); use != api.ErrArg || release != api.ErrArg {
		t.Errorf("Use: %d, Release: %d", use, release)
	}
	if why := p.Flip(-1, 1, nil, nil); why != api.ErrNil || !p.Dead() {
		t.Errorf("Flip: %d, dead %v", why, p.Dead())
	}
}

// P1: a disk that is another one now, of fewer sectors, lets no call panic.
func TestDiskThatShrinks(t *testing.T) {
	p, d := newPager(t, 4)
	*d = disk.Disk{}
	if b, why := p.Read(0); b != nil || why != api.ErrArg {
		t.Errorf("Read: %v, %d", b, why)
	}
	if n, why := p.Write(nil); n != 0 || why != api.ErrArg || !p.Dead() {
		t.Errorf("Write: %d, %d, dead %v", n, why, p.Dead())
	}
}

// P5.1-P5.5: the chapter's example.
func TestExample(t *testing.T) {
	p, d := newPager(t, 3)
	mustWrite(t, p, []byte("a"), 0)
	mustWrite(t, p, []byte("b"), 1)
	mustFlip(t, p, 0, 1, "m", 0)
	mustWrite(t, p, []byte("c"), 1)
	d.Crash(nil)
	p, r := mustOpen(t, d, 0, 5)
	wantRoot(t, r, 1, 0, 1, "m")
	wantRoot(t, p.Root(), 1, 0, 1, "m")
	wantPage(t, p, 0, []byte("a"))
	wantPage(t, p, 1, []byte("b"))
}

// P5.1: Use makes just these pages used and all others free, whatever they were.
func TestUse(t *testing.T) {
	p, d := newPager(t, 5)
	mustWrite(t, p, nil, 0)
	mustWrite(t, p, nil, 1)
	mustUse(t, p, 4, 1, 4)
	wantStates(t, p, ".u..u")
	mustUse(t, p, 2)
	wantStates(t, p, "..u..")
	for _, pages := range [][]int{{-1}, {5}, {0, 5}, {5, 0}, {0, 1, -1}, {math.MinInt}, {math.MaxInt}} {
		if why := p.Use(pages); why != api.ErrArg {
			t.Errorf("Use(%v): %d", pages, why)
		}
		wantStates(t, p, "..u..")
	}
	mustUse(t, p, 0, 1, 2, 3, 4)
	wantStates(t, p, "uuuuu")
	mustUse(t, p)
	wantStates(t, p, ".....")
	if d.Unsynced() != 2 {
		t.Error("Use writes")
	}
}

// P5.2, P1: what Read refuses, and what it answers of a page that is used, fresh or free.
func TestRead(t *testing.T) {
	d := newDisk(t, 9)
	p, _ := mustOpen(t, d, 3, 5)
	for _, page := range []int{-1, -2, -3, 3, 4, math.MinInt, math.MaxInt, math.MaxInt - 4} {
		if b, why := p.Read(page); b != nil || why != api.ErrArg {
			t.Errorf("Read(%d): %v, %d", page, b, why)
		}
	}
	for page := range 3 {
		if b, why := p.Read(page); b != nil || why != api.ErrSum {
			t.Errorf("Read(%d) of a page that was not written: %v, %d", page, b, why)
		}
	}
	full := bytes.Repeat([]byte{7}, 252)
	mustWrite(t, p, full, 0)
	mustWrite(t, p, nil, 1)
	wantPage(t, p, 0, full)
	wantPage(t, p, 1, nil)
	mustUse(t, p, 1)
	wantPage(t, p, 0, full)
	wantPage(t, p, 1, nil)
}

// P5.2: a page of which any one byte is another one has not its sum.
func TestSumOfPage(t *testing.T) {
	d := newDisk(t, 4)
	p, _ := mustOpen(t, d, 1, 3)
	right := plainSeal([]byte("some bytes"))
	for at := range 256 {
		wrong := bytes.Clone(right)
		wrong[at] ^= 1 << (at % 8)
		lay(t, d, 3, wrong)
		if b, why := p.Read(0); b != nil || why != api.ErrSum {
			t.Fatalf("byte %d: %v, %d", at, b, why)
		}
	}
	lay(t, d, 3, right)
	wantPage(t, p, 0, []byte("some bytes"))
}

// P5.2: a page is written in the document's form, in its own sector, on the free page with the lowest number.
func TestWrite(t *testing.T) {
	d := newDisk(t, 9)
	p, _ := mustOpen(t, d, 2, 6)
	mustUse(t, p, 0, 2)
	mustWrite(t, p, []byte("first"), 1)
	wantStates(t, p, "unu.")
	wantSector(t, d, 5, plainSeal([]byte("first")))
	full := bytes.Repeat([]byte{0xff}, 252)
	mustWrite(t, p, full, 3)
	wantStates(t, p, "unun")
	wantSector(t, d, 7, plainSeal(full))
	for _, n := range []int{0, 1, 2, 3, 4, 6, 8} {
		wantSector(t, d, n, make([]byte, 256))
	}
	if d.Unsynced() != 2 {
		t.Errorf("%d writes", d.Unsynced())
	}
}

// P5.2, P1: what Write refuses, in the order of its errors; it changes nothing then.
func TestErrorsOfWrite(t *testing.T) {
	p, d := newPager(t, 1)
	long := make([]byte, 253)
	if n, why := p.Write(long); n != 0 || why != api.ErrSize {
		t.Errorf("Write of 253 bytes: %d, %d", n, why)
	}
	wantStates(t, p, ".")
	mustWrite(t, p, make([]byte, 252), 0)
	if n, why := p.Write(long); n != 0 || why != api.ErrSize {
		t.Errorf("Write of 253 bytes on no page: %d, %d", n, why)
	}
	if n, why := p.Write(nil); n != 0 || why != api.ErrFull || p.Dead() {
		t.Errorf("Write on no page: %d, %d, dead %v", n, why, p.Dead())
	}
	if d.Unsynced() != 1 {
		t.Errorf("%d writes", d.Unsynced())
	}
	d.Fail()
	if why := p.Flip(-1, 1, nil, nil); why != api.ErrSync {
		t.Errorf("Flip: %d", why)
	}
	if n, why := p.Write(long); n != 0 || why != api.ErrDead {
		t.Errorf("Write of a dead pager: %d, %d", n, why)
	}
}

// P5.2: an error of the disk is Write's; the pager is dead then, and the page, which was not written, is free.
func TestWriteThatFails(t *testing.T) {
	for _, c := range []struct {
		name  string
		spoil func(*disk.Disk)
		want  api.Errno
	}{
		{"full", func(d *disk.Disk) { d.Full(true) }, api.ErrFull},
		{"dead", func(d *disk.Disk) { d.Fail(); d.Sync() }, api.ErrDead},
	} {
		p, d := newPager(t, 3)
		mustWrite(t, p, []byte("x"), 0)
		c.spoil(d)
		if n, why := p.Write([]byte("y")); n != 0 || why != c.want || !p.Dead() {
			t.Errorf("%s: %d, %d, dead %v", c.name, n, why, p.Dead())
		}
		wantStates(t, p, "n..")
		d.Crash([]int{256})
		if n, why := p.Write(nil); n != 0 || why != api.ErrDead {
			t.Errorf("%s, and then Write: %d, %d", c.name, n, why)
		}
		if why := p.Flip(-2, 1, nil, nil); why != api.ErrDead {
			t.Errorf("%s, and then Flip: %d", c.name, why)
		}
		wantPage(t, p, 0, []byte("x"))
		if why := p.Release(0); why != api.OK {
			t.Errorf("%s, and then Release: %d", c.name, why)
		}
		mustUse(t, p, 1)
		wantStates(t, p, ".u.")
	}
}

// P5.2: a page that is fresh, and no other one, is released.
func TestRelease(t *testing.T) {
	p, _ := newPager(t, 4)
	mustUse(t, p, 0)
	mustWrite(t, p, nil, 1)
	mustWrite(t, p, nil, 2)
	for _, page := range []int{0, 3, 4, -1, math.MinInt, math.MaxInt} {
		if why := p.Release(page); why != api.ErrArg {
			t.Errorf("Release(%d): %d", page, why)
		}
	}
	wantStates(t, p, "unn.")
	if why := p.Release(1); why != api.OK {
		t.Errorf("Release(1): %d", why)
	}
	wantStates(t, p, "u.n.")
	if why := p.Release(1); why != api.ErrArg {
		t.Errorf("Release(1) again: %d", why)
	}
	mustWrite(t, p, nil, 1)
	mustFlip(t, p, 1, 1, "", 1)
	for page := range 4 {
		if why := p.Release(page); why != api.ErrArg {
			t.Errorf("Release(%d) behind the flip: %d", page, why)
		}
	}
	wantStates(t, p, ".u..")
}
