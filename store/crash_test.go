package store

import (
	"encoding/binary"
	"hash/crc32"
	"maps"
	"math/rand"
	"slices"
	"testing"

	"almoner/api"
	"almoner/disk"
)

// resum makes the sum of a sector right.
func resum(sector []byte) {
	binary.LittleEndian.PutUint32(sector, crc32.Checksum(sector[4:], crc32.MakeTable(crc32.Castagnoli)))
}

// trial is a store, and what must be found of it behind a crash.
type trial struct {
	t     *testing.T
	r     *rand.Rand
	d     *disk.Disk
	s     *Store
	has   map[string]string
	tried map[string]string // what the batch would have made that was being written when the power went
	full  int               // how often there was no room
	ends  int               // how often a batch was there that was not answered
}

func newTrial(t *testing.T, seed int64) *trial {
	r := rand.New(rand.NewSource(seed))
	x := &trial{t: t, r: r, has: map[string]string{}}
	x.d = newDisk(t, []int{64, 65, 80, 128, 256}[r.Intn(5)])
	x.s = mustOpen(t, x.d)
	return x
}

// batch is a batch that may have many small pairs, or a few great ones.
func (x *trial) batch() []api.Pair {
	if x.r.Intn(4) > 0 {
		return randomBatch(x.r, 12)
	}
	l := numbered(1+x.r.Intn(3), 3+x.r.Intn(2)*17, x.r.Intn(600))
	for i := range l {
		if l[i].Del = x.r.Intn(2) == 0; l[i].Del {
			l[i].Val = nil
		}
	}
	return l
}

func (x *trial) write() {
	l := x.batch()
	next := mapOf(pairsOf(x.has), l)
	spoilt := x.r.Intn(8) == 0
	if spoilt && x.r.Intn(5) > 0 {
		x.d.Fail()
	} else if spoilt {
		x.d.Full(true)
	}
	why := x.s.Write(l)
	switch {
	case why == api.OK && !spoilt:
		x.has = next
	case why == api.ErrFull && !x.s.Dead():
		x.full++
		x.d.Full(false)
		if spoilt {
			x.crash()
		}
	case spoilt && (why == api.ErrSync || why == api.ErrFull):
		wantDead(x.t, x.s, x.has)
		x.tried = next
		x.crash()
	default:
		x.t.Fatalf("Write: %d, of a disk that is spoilt %v", why, spoilt)
	}
}

// checkpoint makes one; sometimes its first sync fails.
func (x *trial) checkpoint() {
	spoilt := x.r.Intn(4) == 0
	if spoilt {
		x.d.Fail()
	}
	why := x.s.Checkpoint()
	switch {
	case why == api.OK && !spoilt:
	case why == api.ErrSync && spoilt:
		wantDead(x.t, x.s, x.has)
		x.crash()
	case why == api.ErrFull && !x.s.Dead():
		x.full++
		if spoilt {
			x.crash()
		}
	default:
		x.t.Fatalf("Checkpoint: %d, of a disk that is spoilt %v", why, spoilt)
	}
}

// crash keeps some bytes of each write that is not safe, and opens the store again.
func (x *trial) crash() {
	kept := make([]int, x.d.Unsynced())
	whole := x.r.Intn(3)
	for i := range kept {
		switch {
		case whole == 0 || x.r.Intn(3) == 0:
			kept[i] = 256
		case x.r.Intn(2) == 0:
			kept[i] = x.r.Intn(300) - 20
		}
	}
	x.d.Crash(kept)
	x.open()
}

// open opens the store: it has what it had, or that and the next batch, whole.
func (x *trial) open() {
	x.s = mustOpen(x.t, x.d)
	got := has(x.t, x.s)
	if x.tried != nil && maps.Equal(got, x.tried) && !maps.Equal(got, x.has) {
		x.ends++
		x.has = x.tried
	}
	x.tried = nil
	wantStore(x.t, x.s, x.has)
}

// P7.6, P7.7, P3: scripts of batches, checkpoints and crashes; behind each crash all batches are there that were answered, and perhaps the next one, whole.
func TestCrashes(t *testing.T) {
	full, ends := 0, 0
	for seed := range int64(80) {
		x := newTrial(t, seed)
		for range 120 {
			switch x.r.Intn(12) {
			case 0:
				x.crash()
			case 1:
				x.checkpoint()
			case 2:
				x.open()
			default:
				x.write()
			}
		}
		wantStore(t, x.s, x.has)
		full += x.full
		ends += x.ends
	}
	if full == 0 || ends == 0 {
		t.Errorf("%d times there was no room, %d times the next batch", full, ends)
	}
}

// P7.6: a crash in a Write, each sector of the batch torn anywhere: the batch is there if all of it is kept, and else not at all, nor later.
func TestTornWrite(t *testing.T) {
	l := batch("a=9 -b")
	l = append(l, numbered(2, 5, 400)...)
	before, after := mapOf(batch("a=1 b=2")), mapOf(batch("a=1 b=2"), l)
	const sectors = 4
	// Of the last sector nothing but 0 stands behind the batch's last piece.
	end := 14 + 4 + len(mustBatch(t, l)) - (sectors-1)*242
	for torn := range sectors {
		for kept := 0; kept <= 256; kept += 8 {
			s, d := newStore(t, 64)
			mustWrite(t, s, batch("a=1 b=2"))
			d.Fail()
			if why := s.Write(l); why != api.ErrSync || d.Unsynced() != sectors {
				t.Fatalf("Write: %d, of %d sectors", why, d.Unsynced())
			}
			keeps := []int{256, 256, 256, 256}
			keeps[torn] = kept
			d.Crash(keeps)
			want := before
			if kept == 256 || torn == sectors-1 && kept >= end {
				want = after
			}
			s = mustOpen(t, d)
			wantStore(t, s, want)
			mustWrite(t, s, batch("c=3"))
			wantStore(t, mustOpen(t, d), mapOf(pairsOf(want), batch("c=3")))
		}
	}
}

// mixed is an image with the first bytes of a sector as they are in another one.
func mixed(image, other []byte, sector, kept int) {
	copy(image[sector*256:sector*256+kept], other[sector*256:])
}

// changed is the sectors from one on, up to another, that two images have not in common.
func changed(a, b []byte, from, to int) []int {
	var l []int
	for s := from; s < to; s++ {
		if !slices.Equal(a[s*256:(s+1)*256], b[s*256:(s+1)*256]) {
			l = append(l, s)
		}
	}
	return l
}

// P7.6: a crash in a checkpoint, wherever its pages or its root are torn, loses nothing; nor does one behind it.
func TestTornCheckpoint(t *testing.T) {
	s, d := newStore(t, 128)
	want := map[string]string{}
	r := rand.New(rand.NewSource(5))
	for round := range 6 {
		for range 10 {
			l := randomBatch(r, 6)
			mustWrite(t, s, l)
			want = mapOf(pairsOf(want), l)
		}
		before := d.Image()
		mustCheckpoint(t, s)
		after := d.Image()
		pages, slot := changed(before, after, 2, 64), changed(before, after, 0, 2)
		if len(pages) < 2 || len(slot) != 1 || slot[0] != (round+1)%2 || len(changed(before, after, 64, 128)) != 0 {
			t.Fatalf("the pages %v, the slots %v are written", pages, slot)
		}
		for range 30 {
			torn := slices.Clone(before)
			for _, page := range pages {
				mixed(torn, after, page, r.Intn(257))
			}
			goesOn(t, torn, want)
		}
		for kept := 0; kept <= 256; kept += 3 {
			torn := slices.Clone(after)
			copy(torn[:512], before[:512])
			mixed(torn, after, slot[0], kept)
			goesOn(t, torn, want)
		}
	}
}

// goesOn asks that the store on an image has just what it had, and that it is so behind more batches, a checkpoint, and another loss of power.
func goesOn(t *testing.T, image []byte, want map[string]string) {
	t.Helper()
	d := loadDisk(t, image)
	s := mustOpen(t, d)
	wantStore(t, s, want)
	l := batch("new=1")
	mustWrite(t, s, l)
	want = mapOf(pairsOf(want), l)
	wantStore(t, mustOpen(t, loadDisk(t, d.Image())), want)
	mustCheckpoint(t, s)
	mustWrite(t, s, nil)
	wantStore(t, mustOpen(t, loadDisk(t, d.Image())), want)
}

// P7.6: what a crash has lost does not come back, whatever is written later.
func TestNothingComesBack(t *testing.T) {
	s, d := newStore(t, 64)
	mustWrite(t, s, batch("a=1"))
	for range 40 {
		d.Fail()
		s.Write(append(numbered(3, 5, 400), batch("lost=1")...))
		kept := []int{256, 256, 256, 256, 256, 256, 256}
		kept[0] = 0
		d.Crash(kept)
		s = mustOpen(t, d)
		mustWrite(t, s, batch("a=1"))
		s = mustOpen(t, d)
		wantTold(t, s, "a=1")
	}
}

// P7.7: opened again without a crash, and behind a Checkpoint, it is as it was, however often.
func TestOpenedAgain(t *testing.T) {
	x := newTrial(t, 3)
	x.d = newDisk(t, 128)
	x.s = mustOpen(t, x.d)
	for n := range 60 {
		l := randomBatch(x.r, 8)
		mustWrite(t, x.s, l)
		x.has = mapOf(pairsOf(x.has), l)
		if n%3 == 0 {
			mustCheckpoint(t, x.s)
			wantStore(t, x.s, x.has)
		}
		image := x.d.Image()
		for range 2 {
			x.open()
		}
		if !slices.Equal(image, x.d.Image()) || x.d.Unsynced() != 0 {
			t.Fatal("Open writes where nothing was lost")
		}
	}
}
