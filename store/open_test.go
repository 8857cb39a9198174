package store

import (
	"bytes"
	"strings"
	"testing"

	"almoner/api"
	"almoner/btree"
	"almoner/disk"
	"almoner/journal"
	"almoner/pager"
)

// P7.1: what Open refuses of a disk alone; a new disk is an empty store.
func TestOpen(t *testing.T) {
	if s, why := Open(nil); s != nil || why != api.ErrNil {
		t.Errorf("Open of nil: %v, %d", s, why)
	}
	for _, sectors := range []int{1, 2, 3, 6, 63} {
		if s, why := Open(newDisk(t, sectors)); s != nil || why != api.ErrArg {
			t.Errorf("Open of %d sectors: %v, %d", sectors, s, why)
		}
	}
	for _, sectors := range []int{64, 65, 127, 4095, 4096} {
		s, d := newStore(t, sectors)
		if d.Unsynced() != 0 {
			t.Error("Open writes on a new disk")
		}
		wantStore(t, s, nil)
		writeAll(t, s, numbered(30, 5, 50)[:6])
		mustCheckpoint(t, s)
		mustWrite(t, s, batch("a=1"))
		wantStore(t, mustOpen(t, d), mapOf(numbered(6, 5, 50), batch("a=1")))
	}
}

// wantRefused asks that Open answers an error, and no store.
func wantRefused(t *testing.T, name string, d *disk.Disk, want api.Errno) {
	t.Helper()
	if s, why := Open(d); s != nil || why != want {
		t.Errorf("%s: %v, %d; want %d", name, s, why, want)
	}
}

// flipped is a disk of 64 sectors with a tree of these pairs as a root's.
func flipped(t *testing.T, l []api.Pair, meta string) *disk.Disk {
	t.Helper()
	d := newDisk(t, 64)
	p, _, _ := pager.Open(d, 0, 32)
	tree, why := btree.Load(p, l)
	if why != api.OK {
		t.Fatalf("Load: %d", why)
	}
	pages, _ := tree.Pages()
	if why := p.Flip(tree.Root(), 1, []byte(meta), pages); why != api.OK {
		t.Fatalf("Flip: %d", why)
	}
	return d
}

// P7.1: an error of a page is Open's.
func TestOpenWrongPages(t *testing.T) {
	s, d := newStore(t, 64)
	mustWrite(t, s, numbered(10, 10, 100))
	mustCheckpoint(t, s)
	image := d.Image()
	pages := 0
	for sector := 2; sector < 32; sector++ {
		torn := bytes.Clone(image)
		if bytes.Equal(torn[sector*256:(sector+1)*256], make([]byte, 256)) {
			continue
		}
		torn[sector*256+100] ^= 1
		wantRefused(t, "a page that is torn", loadDisk(t, torn), api.ErrSum)
		pages++
	}
	if pages < 5 {
		t.Errorf("the tree has %d pages", pages)
	}
	d = newDisk(t, 64)
	p, _, _ := pager.Open(d, 0, 32)
	page, _ := p.Write([]byte("no tree"))
	p.Flip(page, 1, nil, []int{page})
	wantRefused(t, "a page that is none of a tree", d, api.ErrForm)
	p.Flip(20, 1, nil, nil)
	wantRefused(t, "a page that was never written", d, api.ErrSum)
}

// P7.1: a tree that can not be a store's is ErrForm.
func TestOpenWrongTrees(t *testing.T) {
	full := strings.Repeat("v", 77)
	var much []api.Pair
	for n := range 26 {
		much = append(much, api.Pair{Key: "k" + string([]byte{byte(n)}), Val: []byte(full)})
	}
	piece := func(key string, n byte, val string) api.Pair {
		return api.Pair{Key: key + string([]byte{n}), Val: []byte(val)}
	}
	for name, l := range map[string][]api.Pair{
		"no key":                           {piece("", 0, "v")},
		"a long key":                       {piece(strings.Repeat("k", 21), 0, "v")},
		"the longest key":                  {piece(strings.Repeat("k", 23), 0, "v")},
		"no first piece":                   {piece("k", 1, "v")},
		"a piece missing":                  {piece("k", 0, full), piece("k", 2, "v")},
		"a piece that is not full":         {piece("k", 0, full[1:]), piece("k", 1, "v")},
		"a piece that is more than full":   {piece("k", 0, full+"v")},
		"such a piece behind another":      {piece("k", 0, full), piece("k", 1, full+"v")},
		"an empty piece behind a full one": {piece("k", 0, full), piece("k", 1, "")},
		"an empty piece behind another":    {piece("k", 0, ""), piece("k", 1, "v")},
		"a long value":                     much,
		"a key without a number":           {{Key: "key", Val: []byte("v")}},
		"a wrong one behind right ones":    {piece("a", 0, "v"), piece("b", 0, full), piece("b", 1, "v"), piece("c", 7, "v")},
	} {
		wantRefused(t, name, flipped(t, l, ""), api.ErrForm)
	}
	right := []api.Pair{piece("a", 0, ""), piece("b", 0, full), piece("b", 1, "v")}
	wantStore(t, mustOpen(t, flipped(t, right, "")), map[string]string{"a": "", "b": full + "v"})
	wantRefused(t, "a root with Meta", flipped(t, right, "m"), api.ErrForm)
	wantRefused(t, "a root of no tree with Meta", flipped(t, nil, "m"), api.ErrForm)
}

// P7.1: a record of the journal that is no batch is ErrForm.
func TestOpenWrongRecords(t *testing.T) {
	for name, record := range map[string]string{
		"an empty record":    "",
		"a record cut":       "\x01\x01k\x00",
		"a byte more":        "\x00\x00",
		"a wrong truth":      "\x01\x01k\x02\x00",
		"an empty key":       "\x01\x00\x00\x00",
		"a Del with a value": "\x01\x01k\x01\x01v",
		"a count too great":  "\xff\xff\xff\xff\xff\xff\xff\xff\xff\x01",
	} {
		for _, ahead := range []string{"", "a=1"} {
			s, d := newStore(t, 64)
			mustWrite(t, s, batch(ahead))
			j, _, _ := journal.Open(d, 32, 32, 1)
			j.Append([]byte(record))
			j.Append(mustBatch(t, batch("b=2")))
			j.Sync()
			wantRefused(t, name, d, api.ErrForm)
		}
	}
}

// lost is a disk whose journal has sectors that a crash has left, and that Open has to write over.
func lost(t *testing.T) *disk.Disk {
	t.Helper()
	s, d := newStore(t, 64)
	mustWrite(t, s, batch("a=1"))
	mustCheckpoint(t, s)
	mustWrite(t, s, batch("b=2"))
	d.Fail()
	s.Write(numbered(2, 5, 400))
	d.Crash([]int{0, 256, 256, 256})
	return d
}

// P7.1: an error of the disk that Open meets in the journal is its own.
func TestOpenDiskErrors(t *testing.T) {
	d := lost(t)
	d.Full(true)
	wantRefused(t, "a full disk", d, api.ErrFull)
	d.Full(false)
	d.Fail()
	wantRefused(t, "a sync that fails", d, api.ErrSync)
	wantRefused(t, "a dead disk", lostDead(t), api.ErrDead)
	d.Crash(nil)
	wantTold(t, mustOpen(t, d), "a=1 b=2")
	// The pages are read ahead of the journal.
	image := lost(t).Image()
	image[2*256+100] ^= 1
	d = loadDisk(t, image)
	d.Full(true)
	wantRefused(t, "a full disk with a torn page", d, api.ErrSum)
}

// lostDead is such a disk that is dead.
func lostDead(t *testing.T) *disk.Disk {
	d := lost(t)
	d.Fail()
	d.Sync()
	return d
}

// P7.1, P7.3: a disk that was made by hand, on which the numbers of roots or of sectors end: what is written is safe, as long as the journal has room, and nothing is lost then.
func TestNumbersThatEnd(t *testing.T) {
	for name, slot := range map[string]pager.Root{
		"Next": {Gen: 5, Page: -1, Next: 1 << 60},
		"Gen":  {Gen: 1 << 60, Page: -1, Next: 1},
	} {
		d := loadDisk(t, rooted(t, slot))
		s := mustOpen(t, d)
		has := map[string]string{}
		why := api.OK
		for i := 0; why == api.OK && i < 100; i++ {
			l := numbered(1+i%3, 5, 100)
			if why = s.Write(l); why == api.OK {
				has = mapOf(pairsOf(has), l)
				wantStore(t, mustOpen(t, d.Copy()), has)
			}
		}
		if why != api.ErrFull || s.Checkpoint() != api.ErrFull || s.Dead() || len(has) != 3 {
			t.Errorf("%s: %d, dead %v, %d keys", name, why, s.Dead(), len(has))
		}
		wantStore(t, s, has)
		wantStore(t, mustOpen(t, d), has)
	}
}

// rooted is the image of a disk of 64 sectors whose one root is this.
func rooted(t *testing.T, r pager.Root) []byte {
	t.Helper()
	d := newDisk(t, 64)
	p, _, _ := pager.Open(d, 0, 32)
	p.Flip(r.Page, r.Next, nil, nil)
	image := d.Image()
	slot := image[256:512]
	for i := range 8 {
		slot[4+i] = byte(uint64(r.Gen) >> (8 * i))
	}
	resum(slot)
	return image
}

// P7.1, P1: Open of disks of any bytes ends, and does not panic; what it answers is a store that can be written to and opened again.
func FuzzOpen(f *testing.F) {
	f.Add([]byte("root"), []byte("page"), []byte("\x01\x01k\x00\x01v"), int64(1), 0)
	f.Add([]byte(""), []byte("\x00\x01\x02k\x00\x01v\x04tree"), []byte("\x00"), int64(9), 1)
	f.Fuzz(func(t *testing.T, meta, page, record []byte, next int64, root int) {
		d := newDisk(t, 64)
		p, _, _ := pager.Open(d, 0, 32)
		n, why := p.Write(page)
		if why != api.OK || p.Flip(max(-1, min(root, n)), max(1, next%(1<<60)), meta, []int{n}) != api.OK {
			return
		}
		j, _, _ := journal.Open(d, 32, 32, p.Root().Next)
		j.Append(record)
		j.Sync()
		s, why := Open(d)
		if why != api.OK {
			if s != nil {
				t.Fatal("a store beside an error")
			}
			return
		}
		want := has(t, s)
		if why := s.Write(batch("a=1")); why == api.OK {
			want["a"] = "1"
		} else if why != api.ErrFull {
			t.Fatalf("Write: %d", why)
		}
		wantStore(t, mustOpen(t, d), want)
	})
}
