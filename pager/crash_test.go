package pager

import (
	"bytes"
	"fmt"
	"maps"
	"math/rand"
	"slices"
	"testing"

	"almoner/api"
	"almoner/disk"
)

// safety is a root, and what the pages that it uses hold.
type safety struct {
	root  Root
	pages map[int][]byte
}

// trial is a pager, and what must be found of it behind a crash.
type trial struct {
	t     *testing.T
	r     *rand.Rand
	d     *disk.Disk
	from  int
	size  int
	p     *Pager
	safe  safety         // what the last flip was answered OK for
	tried *safety        // what was being flipped to when the power went
	fresh map[int][]byte // what was written since
	count int
}

func newTrial(t *testing.T, seed int64) *trial {
	r := rand.New(rand.NewSource(seed))
	x := &trial{t: t, r: r, from: r.Intn(3), size: 3 + r.Intn(8)}
	x.d = newDisk(t, x.from+x.size+r.Intn(2))
	x.safe.root = Root{Page: -1, Next: 1}
	x.open()
	return x
}

// open opens the pager, behind a crash perhaps, and holds what is there against what must be.
func (x *trial) open() {
	p, r := mustOpen(x.t, x.d, x.from, x.size)
	if !same(r, x.safe.root) {
		if x.tried == nil || !same(r, x.tried.root) {
			x.t.Fatalf("the root is %v, want %v (or %v)", r, x.safe.root, x.tried)
		}
		x.safe = *x.tried
	}
	x.p, x.tried, x.fresh = p, nil, map[int][]byte{}
	mustUse(x.t, p, slices.Collect(maps.Keys(x.safe.pages))...)
	x.look()
}

// look holds the pages and how many are free against what they must be.
func (x *trial) look() {
	for _, pages := range []map[int][]byte{x.safe.pages, x.fresh} {
		for page, b := range pages {
			wantPage(x.t, x.p, page, b)
		}
	}
	if free := x.size - 2 - len(x.safe.pages) - len(x.fresh); x.p.Free() != free {
		x.t.Fatalf("%d are free, want %d", x.p.Free(), free)
	}
	if !same(x.p.Root(), x.safe.root) {
		x.t.Fatalf("Root: %v, want %v", x.p.Root(), x.safe.root)
	}
}

// lowest is the free page with the lowest number.
func (x *trial) lowest() int {
	for page := 0; ; page++ {
		if x.safe.pages[page] == nil && x.fresh[page] == nil {
			return page
		}
	}
}

func (x *trial) write() {
	x.count++
	b := []byte(fmt.Sprint(x.count, " ", x.r.Int63()))
	b = append(b, make([]byte, x.r.Intn(252-len(b)+1))...)
	page := x.lowest()
	got, why := x.p.Write(b)
	switch {
	case page < x.size-2 && (got != page || why != api.OK):
		x.t.Fatalf("Write: %d, %d; want %d", got, why, page)
	case page >= x.size-2 && (got != 0 || why != api.ErrFull):
		x.t.Fatalf("Write on no page: %d, %d", got, why)
	case why == api.OK:
		x.fresh[page] = b
	}
}

func (x *trial) release() {
	for page := range x.fresh {
		if x.r.Intn(2) == 0 {
			if why := x.p.Release(page); why != api.OK {
				x.t.Fatalf("Release(%d): %d", page, why)
			}
			delete(x.fresh, page)
		}
	}
}

// next is a root that may be flipped to, and some of the pages that are held.
func (x *trial) next() safety {
	next := safety{pages: map[int][]byte{}}
	for _, pages := range []map[int][]byte{x.safe.pages, x.fresh} {
		for page, b := range pages {
			if x.r.Intn(3) > 0 {
				next.pages[page] = b
			}
		}
	}
	meta := make([]byte, x.r.Intn(101))
	x.r.Read(meta)
	next.root = Root{x.safe.root.Gen + 1, x.r.Intn(x.size-1) - 1, 1 + x.r.Int63n(1<<60), meta}
	return next
}

// flip flips to some of the pages; sometimes the disk is spoilt ahead of it.
func (x *trial) flip() {
	next := x.next()
	spoilt := x.spoil()
	why := x.p.Flip(next.root.Page, next.root.Next, next.root.Meta, slices.Collect(maps.Keys(next.pages)))
	switch {
	case spoilt && (why == api.OK || !x.p.Dead()):
		x.t.Fatalf("Flip of a spoilt disk: %d", why)
	case !spoilt && why != api.OK:
		x.t.Fatalf("Flip: %d", why)
	case spoilt:
		x.look()
		x.crash()
	default:
		x.safe, x.fresh = next, map[int][]byte{}
	}
}

// tear does what Flip does as the document tells it, up to the second sync, where the power goes.
func (x *trial) tear() {
	next := x.next()
	r := next.root
	x.tried = &next
	lay(x.t, x.d, 0)
	x.d.Write(x.from+int(r.Gen%2), plainSlot(uint64(r.Gen), uint32(r.Page+1), uint64(r.Next), byte(len(r.Meta)), r.Meta))
	x.crash()
}

func (x *trial) spoil() bool {
	switch x.r.Intn(8) {
	case 0:
		x.d.Fail()
	case 1:
		x.d.Full(true)
	default:
		return false
	}
	return true
}

// crash keeps some bytes of each write that is not safe, and opens the pager again.
func (x *trial) crash() {
	kept := make([]int, x.d.Unsynced())
	for i := range kept {
		switch x.r.Intn(3) {
		case 0:
			kept[i] = x.r.Intn(257)
		case 1:
			kept[i] = 256
		}
	}
	x.d.Crash(kept)
	x.open()
}

// P5.1-P5.5: scripts of writes, flips and crashes; behind each crash the root is that of the last flip, or the one that was being flipped to, and its pages are as they were written.
func TestCrashes(t *testing.T) {
	for seed := range int64(400) {
		x := newTrial(t, seed)
		for range 60 {
			switch x.r.Intn(11) {
			case 0:
				x.crash()
			case 1, 2:
				x.flip()
			case 3:
				x.tear()
			case 4:
				x.release()
			default:
				x.write()
			}
			x.look()
		}
		if t.Failed() {
			t.Fatalf("seed %d", seed)
		}
	}
}

// P5.4: a crash while the slot is being written, torn at each of its bytes, leaves the root that was or the one that was to be, whole, with its pages.
func TestTornFlip(t *testing.T) {
	p, d := newPager(t, 3)
	mustWrite(t, p, []byte("a"), 0)
	mustFlip(t, p, 0, 1, "m", 0)
	mustWrite(t, p, []byte("b"), 1)
	mustFlip(t, p, 1, 2, "n", 0, 1)
	mustWrite(t, p, []byte("c"), 2)
	if why := d.Sync(); why != api.OK {
		t.Fatalf("Sync: %d", why)
	}
	slot := plainSlot(3, 3, 3, 1, []byte("o"))
	news := 0
	for kept := range 257 {
		torn := d.Copy()
		torn.Write(1, slot)
		torn.Crash([]int{kept})
		q, r := mustOpen(t, torn, 0, 5)
		if r.Gen == 3 {
			news++
			wantRoot(t, r, 3, 2, 3, "o")
			wantPage(t, q, 2, []byte("c"))
		} else {
			wantRoot(t, r, 2, 1, 2, "n")
			wantPage(t, q, 0, []byte("a"))
			wantPage(t, q, 1, []byte("b"))
		}
	}
	// Behind Meta there is nothing but 0 in the old slot and in the new one.
	if first := 4 + 21 + 1; news != 257-first {
		t.Errorf("the new root is there at %d of the cuts", news)
	}
}

// P5.5: between two flips no sector of a used page, nor that of the safe root, is written.
func TestUsedPagesStay(t *testing.T) {
	p, d := newPager(t, 6)
	for page := range 4 {
		mustWrite(t, p, []byte{byte(page)}, page)
	}
	mustFlip(t, p, 0, 1, "", 0, 1, 3)
	before := d.Image()
	for page, why := p.Write([]byte("x")); why == api.OK; page, why = p.Write([]byte("x")) {
		if page != 2 && page != 4 && page != 5 {
			t.Errorf("the page %d is written", page)
		}
	}
	d.Sync()
	after := d.Image()
	for _, sector := range []int{0, 1, 2, 3, 5} {
		if !bytes.Equal(before[sector*256:(sector+1)*256], after[sector*256:(sector+1)*256]) {
			t.Errorf("the sector %d is written", sector)
		}
	}
}

// FuzzOpen: whatever stands on a disk, a pager opens there, has a root that can be, and flips on from it.
func FuzzOpen(f *testing.F) {
	f.Add(plainSlot(1, 0, 1, 0, nil), plainSlot(2, 3, 4, 5, []byte("bytes")), plainSeal([]byte("p")))
	f.Fuzz(func(t *testing.T, first, second, page []byte) {
		d := newDisk(t, 4)
		for i, b := range [][]byte{first, second, page} {
			d.Write(i, b)
		}
		p, r := mustOpen(t, d, 0, 4)
		if r.Gen < 0 || r.Gen > 1<<60 || r.Page < -1 || r.Page > 1 || r.Next < 1 || r.Next > 1<<60 || len(r.Meta) > 100 {
			t.Fatalf("the root is %v", r)
		}
		if b, why := p.Read(0); (why == api.OK) != (len(b) == 252) || why != api.OK && why != api.ErrSum {
			t.Fatalf("Read: %d bytes, %d", len(b), why)
		}
		mustFlip(t, p, r.Page, r.Next, string(r.Meta))
		if p.Root().Gen != r.Gen+1 {
			t.Fatalf("flipped from %v to %v", r, p.Root())
		}
	})
}
