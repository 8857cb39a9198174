package pager

import (
	"bytes"
	"math"
	"strings"
	"testing"

	"almoner/api"
	"almoner/disk"
)

// P5.1: a slot is right or not, at the bounds of each of its parts.
func TestRightSlots(t *testing.T) {
	meta := bytes.Repeat([]byte{'m'}, 231)
	const most = 1 << 60
	for _, c := range []struct {
		name  string
		slot  []byte
		right bool
		want  Root
	}{
		{"the least", plainSlot(1, 0, 1, 0, nil), true, Root{1, -1, 1, nil}},
		{"the greatest", plainSlot(most, 3, most, 100, meta[:100]), true, Root{most, 2, most, meta[:100]}},
		{"the first page", plainSlot(7, 1, 8, 2, meta[:2]), true, Root{7, 0, 8, meta[:2]}},
		{"not 0 behind Meta", plainSlot(7, 1, 8, 2, meta), true, Root{7, 0, 8, meta[:2]}},
		{"Gen 0", plainSlot(0, 1, 1, 0, nil), false, Root{}},
		{"Gen above 2^60", plainSlot(most+1, 1, 1, 0, nil), false, Root{}},
		{"the greatest Gen", plainSlot(math.MaxUint64, 1, 1, 0, nil), false, Root{}},
		{"a page too many", plainSlot(1, 4, 1, 0, nil), false, Root{}},
		{"Page -2", plainSlot(1, math.MaxUint32, 1, 0, nil), false, Root{}},
		{"Next 0", plainSlot(1, 1, 0, 0, nil), false, Root{}},
		{"Next above 2^60", plainSlot(1, 1, most+1, 0, nil), false, Root{}},
		{"Next -1", plainSlot(1, 1, math.MaxUint64, 0, nil), false, Root{}},
		{"Meta of 101 bytes", plainSlot(1, 1, 1, 101, meta[:101]), false, Root{}},
		{"Meta of 255 bytes", plainSlot(1, 1, 1, 255, meta), false, Root{}},
		{"all 0", make([]byte, 256), false, Root{}},
		{"all 0 with its sum", plainSeal(nil), false, Root{}},
	} {
		for slot := range 2 {
			d := newDisk(t, 6)
			lay(t, d, 1+slot, c.slot)
			p, r := mustOpen(t, d, 1, 5)
			want := c.want
			if !c.right {
				want = Root{Page: -1, Next: 1}
			}
			if !same(r, want) || !same(p.Root(), want) || p.Free() != 3 {
				t.Errorf("%s, in the slot %d: %v, %v; want %v", c.name, slot, r, p.Root(), want)
			}
		}
	}
}

// P5.1: a slot of which any one byte is another one has not its sum.
func TestSumOfSlot(t *testing.T) {
	right := plainSlot(3, 1, 4, 5, []byte("bytes"))
	for at := range 256 {
		wrong := bytes.Clone(right)
		wrong[at] ^= 1 << (at % 8)
		d := newDisk(t, 3)
		lay(t, d, 0, plainSlot(2, 0, 9, 0, nil), wrong)
		_, r := mustOpen(t, d, 0, 3)
		if want := (Root{2, -1, 9, nil}); !same(r, want) {
			t.Fatalf("byte %d: %v", at, r)
		}
	}
}

// P5.1: of two right slots the one with the greater Gen counts, wherever it stands.
func TestGreaterGen(t *testing.T) {
	for _, c := range []struct {
		first, second, want uint64
	}{
		{1, 2, 2}, {2, 1, 2}, {1, 3, 3}, {4, 2, 4}, {5, 1 << 60, 1 << 60}, {256, 255, 256},
	} {
		d := newDisk(t, 3)
		lay(t, d, 0, plainSlot(c.first, 1, c.first, 1, []byte{'0'}), plainSlot(c.second, 0, c.second, 1, []byte{'1'}))
		p, r := mustOpen(t, d, 0, 3)
		if r.Gen != int64(c.want) || r.Next != int64(c.want) || !same(p.Root(), r) {
			t.Errorf("%d and %d: %v", c.first, c.second, r)
		}
	}
}

// P5.3: Flip writes the slots by turns, in the document's form, and syncs; nothing else is written.
func TestFlip(t *testing.T) {
	d := newDisk(t, 8)
	p, _ := mustOpen(t, d, 1, 6)
	mustWrite(t, p, []byte("a"), 0)
	mustWrite(t, p, []byte("b"), 1)
	mustWrite(t, p, []byte("c"), 2)
	mustFlip(t, p, 2, 5, "meta", 2, 0)
	wantRoot(t, p.Root(), 1, 2, 5, "meta")
	wantStates(t, p, "u.u.")
	wantSector(t, d, 1, make([]byte, 256))
	wantSector(t, d, 2, plainSlot(1, 3, 5, 4, []byte("meta")))
	mustFlip(t, p, -1, 1<<60, "")
	wantRoot(t, p.Root(), 2, -1, 1<<60, "")
	wantStates(t, p, "....")
	wantSector(t, d, 1, plainSlot(2, 0, 1<<60, 0, nil))
	mustFlip(t, p, 3, 1, strings.Repeat("x", 100))
	wantSector(t, d, 2, plainSlot(3, 4, 1, 100, bytes.Repeat([]byte{'x'}, 100)))
	wantSector(t, d, 1, plainSlot(2, 0, 1<<60, 0, nil))
	for i, s := range []string{"a", "b", "c"} {
		wantSector(t, d, 3+i, plainSeal([]byte(s)))
	}
	wantSector(t, d, 0, make([]byte, 256))
	wantSector(t, d, 6, make([]byte, 256))
	wantSector(t, d, 7, make([]byte, 256))
	if d.Unsynced() != 0 {
		t.Errorf("%d writes are not safe", d.Unsynced())
	}
}

// P5.3: the Gen goes on from the one that was found, and the slot with it.
func TestFlipGoesOn(t *testing.T) {
	d := newDisk(t, 4)
	lay(t, d, 0, plainSlot(8, 0, 1, 0, nil), plainSlot(7, 0, 1, 0, nil))
	p, _ := mustOpen(t, d, 0, 4)
	mustFlip(t, p, -1, 2, "n")
	wantRoot(t, p.Root(), 9, -1, 2, "n")
	wantSector(t, d, 0, plainSlot(8, 0, 1, 0, nil))
	wantSector(t, d, 1, plainSlot(9, 0, 2, 1, []byte("n")))
}

// P5.3: a flip may keep used pages and fresh ones, none of them or one twice.
func TestPagesOfFlip(t *testing.T) {
	p, _ := newPager(t, 5)
	mustUse(t, p, 0, 2)
	mustWrite(t, p, nil, 1)
	mustWrite(t, p, nil, 3)
	mustFlip(t, p, 4, 1, "", 3, 0, 3)
	wantStates(t, p, "u..u.")
	mustFlip(t, p, 0, 1, "", 0, 3)
	wantStates(t, p, "u..u.")
	mustFlip(t, p, 0, 1, "")
	wantStates(t, p, ".....")
}

// P5.3, P1: what Flip refuses, in the order of its errors; it changes nothing then.
func TestErrorsOfFlip(t *testing.T) {
	p, d := newPager(t, 4)
	mustWrite(t, p, []byte("a"), 0)
	mustFlip(t, p, 0, 3, "m", 0)
	mustWrite(t, p, []byte("b"), 1)
	long := make([]byte, 101)
	for _, c := range []struct {
		name  string
		page  int
		next  int64
		meta  []byte
		pages []int
		want  api.Errno
	}{
		{"page -2", -2, 1, nil, nil, api.ErrArg},
		{"a page too many", 4, 1, nil, nil, api.ErrArg},
		{"the least page", math.MinInt, 1, nil, nil, api.ErrArg},
		{"the greatest page", math.MaxInt, 1, nil, nil, api.ErrArg},
		{"next 0", 0, 0, nil, nil, api.ErrArg},
		{"next below 0", 0, -1, nil, nil, api.ErrArg},
		{"the least next", 0, math.MinInt64, nil, nil, api.ErrArg},
		{"next above 2^60", 0, 1<<60 + 1, nil, nil, api.ErrArg},
		{"the greatest next", 0, math.MaxInt64, nil, nil, api.ErrArg},
		{"a free page", 0, 1, nil, []int{0, 1, 2}, api.ErrArg},
		{"a free page first", 0, 1, nil, []int{3, 0}, api.ErrArg},
		{"no such page", 0, 1, nil, []int{0, 4}, api.ErrArg},
		{"a page below 0", 0, 1, nil, []int{-1, 0}, api.ErrArg},
		{"long meta", 0, 1, long, nil, api.ErrSize},
		{"long meta, and page -2", -2, 1, long, nil, api.ErrArg},
		{"long meta, and next 0", 0, 0, long, nil, api.ErrArg},
		{"long meta, and a free page", 0, 1, long, []int{2}, api.ErrArg},
	} {
		if why := p.Flip(c.page, c.next, c.meta, c.pages); why != c.want || p.Dead() {
			t.Errorf("%s: %d, dead %v; want %d", c.name, why, p.Dead(), c.want)
		}
		wantRoot(t, p.Root(), 1, 0, 3, "m")
		wantStates(t, p, "un..")
	}
	if d.Unsynced() != 1 {
		t.Errorf("%d writes", d.Unsynced())
	}
	d.Full(true)
	if _, why := p.Write(nil); why != api.ErrFull || !p.Dead() {
		t.Errorf("Write: %d", why)
	}
	if why := p.Flip(-2, 0, long, []int{9}); why != api.ErrDead {
		t.Errorf("Flip of a dead pager: %d", why)
	}
}

// P5.3: an error of the disk is Flip's; the pager is dead then, and its root as it was.
func TestFlipThatFails(t *testing.T) {
	for _, c := range []struct {
		name  string
		spoil func(*disk.Disk)
		want  api.Errno
		safe  bool // is the page ahead of the slot safe?
	}{
		{"the sync fails", func(d *disk.Disk) { d.Fail() }, api.ErrSync, false},
		{"the disk is dead", func(d *disk.Disk) { d.Fail(); d.Sync() }, api.ErrDead, false},
		{"the disk is full", func(d *disk.Disk) { d.Full(true) }, api.ErrFull, true},
	} {
		p, d := newPager(t, 3)
		mustWrite(t, p, []byte("a"), 0)
		mustFlip(t, p, 0, 1, "m", 0)
		mustWrite(t, p, []byte("b"), 1)
		c.spoil(d)
		if why := p.Flip(1, 2, nil, []int{1}); why != c.want || !p.Dead() {
			t.Errorf("%s: %d, dead %v; want %d", c.name, why, p.Dead(), c.want)
		}
		wantRoot(t, p.Root(), 1, 0, 1, "m")
		wantStates(t, p, "un.")
		d.Crash(nil)
		if why := p.Flip(1, 2, nil, []int{1}); why != api.ErrDead {
			t.Errorf("%s, and then Flip: %d", c.name, why)
		}
		q, r := mustOpen(t, d, 0, 5)
		wantRoot(t, r, 1, 0, 1, "m")
		if _, why := q.Read(1); (why == api.OK) != c.safe {
			t.Errorf("%s: the page reads with %d", c.name, why)
		}
	}
}

// P5.3, P5.4: what a flip was answered OK for is there behind a crash that keeps nothing: the pages, the slot.
func TestFlipIsSafe(t *testing.T) {
	p, d := newPager(t, 3)
	mustWrite(t, p, []byte("a"), 0)
	mustFlip(t, p, 0, 1, "m", 0)
	mustWrite(t, p, []byte("b"), 1)
	mustFlip(t, p, 1, 2, "n", 1)
	d.Crash(nil)
	p, r := mustOpen(t, d, 0, 5)
	wantRoot(t, r, 2, 1, 2, "n")
	wantPage(t, p, 1, []byte("b"))
}

// The rules 4 and 5: nothing that is handed in is kept or changed, nothing that is answered is shared.
func TestMemory(t *testing.T) {
	p, d := newPager(t, 4)
	b, meta, pages := []byte("bytes"), []byte("meta"), []int{0}
	mustWrite(t, p, b, 0)
	if why := p.Flip(0, 1, meta, pages); why != api.OK {
		t.Fatalf("Flip: %d", why)
	}
	if string(b) != "bytes" || string(meta) != "meta" || pages[0] != 0 {
		t.Error("what was handed in is changed")
	}
	b[0], meta[0], pages[0] = 'x', 'x', 1
	wantPage(t, p, 0, []byte("bytes"))
	wantStates(t, p, "u...")
	r := p.Root()
	wantRoot(t, r, 1, 0, 1, "meta")
	r.Meta[0] = 'y'
	_ = append(r.Meta[:0], "zzzzzzzz"...)
	wantRoot(t, p.Root(), 1, 0, 1, "meta")
	q, r := mustOpen(t, d, 0, 6)
	r.Meta[0] = 'y'
	_ = append(r.Meta, "zzzzzzzz"...)
	wantRoot(t, q.Root(), 1, 0, 1, "meta")
	got, _ := q.Read(0)
	got[0] = 'y'
	wantPage(t, q, 0, []byte("bytes"))
	used := []int{2}
	mustUse(t, q, used...)
	if used[0] != 2 {
		t.Error("Use changes its list")
	}
}
