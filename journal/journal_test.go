package journal

import (
	"bytes"
	"math"
	"math/rand"
	"testing"

	"almoner/api"
	"almoner/disk"
)

// P4.2: the chapter's example.
func TestAppendAsInTheExample(t *testing.T) {
	d := newDisk(t, 4)
	j, _ := mustOpen(t, d, 0, 4, 1)
	mustAppend(t, j, []byte("a"))
	wantBounds(t, j, 1, 2)
	mustAppend(t, j, make([]byte, 500))
	wantBounds(t, j, 1, 5)
	if why := j.Append(nil); why != api.ErrFull || j.Dead() {
		t.Errorf("Append: %d, dead %t; want ErrFull", why, j.Dead())
	}
	wantBounds(t, j, 1, 5)
	mustTrim(t, j, 2)
	mustAppend(t, j, []byte{})
	wantBounds(t, j, 2, 6)
}

// P4.2: a record's sectors, byte by byte, at the edges of its pieces.
func TestSectorsOfARecord(t *testing.T) {
	r := rand.New(rand.NewSource(4))
	for size, count := range map[int]int64{0: 1, 1: 1, 237: 1, 238: 1, 239: 2, 480: 2, 481: 3, 722: 3, 723: 4, api.MaxRecord - 1: 34, api.MaxRecord: 34} {
		b := make([]byte, size)
		r.Read(b)
		before := bytes.Clone(b)
		d := newDisk(t, 40)
		j, _ := mustOpen(t, d, 0, 40, 300)
		mustAppend(t, j, b)
		wantBounds(t, j, 300, 300+count)
		sectors := plainRecord(300, b)
		if int64(len(sectors)) != count || d.Unsynced() != len(sectors) {
			t.Errorf("a record of %d bytes: %d writes, want %d", size, d.Unsynced(), len(sectors))
		}
		for i, s := range sectors {
			wantSector(t, d, (299+i)%40, s)
		}
		if !bytes.Equal(b, before) {
			t.Errorf("Append changes the %d bytes that it is given", size)
		}
		clear(b)
		mustSync(t, j)
		_, records := mustOpen(t, d, 0, 40, 300)
		wantRecords(t, records, string(before))
	}
}

// P4.2: a record's sectors are written in the order of their numbers, round the ring's end too.
func TestSectorsAreWrittenInOrder(t *testing.T) {
	for written := range 5 {
		d := newDisk(t, 4)
		j, _ := mustOpen(t, d, 0, 4, 4)
		mustAppend(t, j, text('o', 900))
		kept := make([]int, written)
		for i := range kept {
			kept[i] = 256
		}
		d.Crash(kept)
		for i, b := range plainRecord(4, text('o', 900)) {
			want := make([]byte, 256)
			if i < written {
				want = b
			}
			wantSector(t, d, (3+i)%4, want)
		}
	}
}

// P4.2, P1: the errors of Append, each ahead of those behind it; what is refused changes nothing.
func TestErrorsOfAppend(t *testing.T) {
	long := make([]byte, api.MaxRecord+1)
	for _, c := range []struct {
		name         string
		dead, filled bool
		full         bool
		b            []byte
		want         api.Errno
		dies         bool
	}{
		{"dead, too long, no room", true, true, true, long, api.ErrDead, true},
		{"dead alone", true, false, false, nil, api.ErrDead, true},
		{"too long, no room", false, true, true, long, api.ErrSize, false},
		{"no room, and a full disk", false, true, true, nil, api.ErrFull, false},
		{"room for one sector alone", false, true, false, text('a', 239), api.ErrFull, false},
		{"a full disk", false, false, true, []byte("a"), api.ErrFull, true},
		{"the longest", false, false, false, long[:api.MaxRecord], api.OK, false},
	} {
		d := newDisk(t, 40)
		j, _ := mustOpen(t, d, 0, 40, 1)
		if c.filled {
			mustAppend(t, j, text('x', api.MaxRecord))
			mustAppend(t, j, text('y', 4*242))
		}
		if c.name == "no room, and a full disk" {
			mustAppend(t, j, nil)
		}
		if c.dead {
			d.Fail()
			j.Sync()
		}
		d.Full(c.full)
		next, writes := j.Next(), d.Unsynced()
		if why := j.Append(c.b); why != c.want || j.Dead() != c.dies {
			t.Errorf("%s: %d, dead %t; want %d, %t", c.name, why, j.Dead(), c.want, c.dies)
		}
		if c.want != api.OK && (j.Next() != next || d.Unsynced() != writes) {
			t.Errorf("%s: a refused record is written", c.name)
		}
	}
}

// P4.2: an error of the disk's Write is Append's, and the journal is dead, even where the disk is well again.
func TestErrorOfTheDiskInAppend(t *testing.T) {
	for want, spoil := range map[api.Errno]func(d *disk.Disk){
		api.ErrFull: func(d *disk.Disk) { d.Full(true) },
		api.ErrDead: func(d *disk.Disk) { d.Fail(); d.Sync() },
	} {
		d := newDisk(t, 4)
		j, _ := mustOpen(t, d, 0, 4, 1)
		mustAppend(t, j, []byte("a"))
		spoil(d)
		if why := j.Append([]byte("b")); why != want || !j.Dead() {
			t.Errorf("Append: %d, dead %t; want %d", why, j.Dead(), want)
		}
		wantBounds(t, j, 1, 2)
		d.Crash(nil)
		if j.Append(nil) != api.ErrDead || j.Sync() != api.ErrDead || j.Room() != 0 || !j.Dead() {
			t.Error("a dead journal goes on")
		}
		if d.Unsynced() != 0 {
			t.Error("a dead journal writes")
		}
	}
}

// P4.2: a sync makes all records safe; with an error of it the journal is dead.
func TestSync(t *testing.T) {
	d := newDisk(t, 4)
	j, _ := mustOpen(t, d, 0, 4, 1)
	mustAppend(t, j, []byte("a"))
	if d.Unsynced() != 1 {
		t.Errorf("%d writes wait behind Append, want 1", d.Unsynced())
	}
	mustSync(t, j)
	if d.Unsynced() != 0 || j.Dead() {
		t.Errorf("%d writes wait behind Sync, dead %t", d.Unsynced(), j.Dead())
	}
	mustAppend(t, j, []byte("b"))
	d.Fail()
	if why := j.Sync(); why != api.ErrSync || !j.Dead() {
		t.Errorf("Sync: %d, dead %t; want ErrSync", why, j.Dead())
	}
	if j.Sync() != api.ErrDead || j.Append(nil) != api.ErrDead {
		t.Error("a dead journal goes on")
	}
	wantBounds(t, j, 1, 3)
	d.Crash(nil)
	_, records := mustOpen(t, d, 0, 4, 1)
	wantRecords(t, records, "a")
}

// P4.2: a sync of a disk that died beside the journal is ErrDead, and the journal is dead too.
func TestSyncOfADeadDisk(t *testing.T) {
	d := newDisk(t, 4)
	j, _ := mustOpen(t, d, 0, 4, 1)
	d.Fail()
	d.Sync()
	if j.Dead() {
		t.Error("a journal is dead ahead of its own error")
	}
	if why := j.Sync(); why != api.ErrDead || !j.Dead() {
		t.Errorf("Sync: %d, dead %t; want ErrDead", why, j.Dead())
	}
}

// P4.2: Trim's bounds are Start and Next, both of them allowed; it writes nothing.
func TestTrim(t *testing.T) {
	d := newDisk(t, 8)
	j, _ := mustOpen(t, d, 0, 8, 10)
	mustAppend(t, j, text('a', 700))
	mustAppend(t, j, []byte("b"))
	writes := d.Unsynced()
	for _, start := range []int64{math.MinInt64, -1, 0, 9, 15, math.MaxInt64} {
		if why := j.Trim(start); why != api.ErrArg {
			t.Errorf("Trim(%d): %d, want ErrArg", start, why)
		}
		wantBounds(t, j, 10, 14)
	}
	for _, start := range []int64{10, 11, 13, 13, 14} {
		mustTrim(t, j, start)
		wantBounds(t, j, start, 14)
		if why := j.Trim(start - 1); why != api.ErrArg {
			t.Errorf("Trim(%d) behind Trim(%d): %d, want ErrArg", start-1, start, why)
		}
	}
	if d.Unsynced() != writes {
		t.Error("Trim writes")
	}
	d.Fail()
	j.Sync()
	mustTrim(t, j, 14)
	if why := j.Trim(15); why != api.ErrArg {
		t.Errorf("Trim(15) of a dead journal: %d, want ErrArg", why)
	}
}

// P4.2: Room is just what Append takes, at each number of free sectors.
func TestRoom(t *testing.T) {
	for used := range 41 {
		d := newDisk(t, 40)
		j, _ := mustOpen(t, d, 0, 40, 5)
		for range used {
			mustAppend(t, j, nil)
		}
		room := j.Room()
		if want := min(max((40-used)*242-4, 0), api.MaxRecord); room != want {
			t.Errorf("Room %d of %d free sectors, want %d", room, 40-used, want)
		}
		want := api.ErrFull
		if room == api.MaxRecord {
			want = api.ErrSize
		}
		if why := j.Append(make([]byte, room+1)); why != want {
			t.Errorf("Append of a byte more than Room: %d, want %d", why, want)
		}
		if used == 40 {
			mustTrim(t, j, 6)
			if j.Room() != 238 {
				t.Errorf("Room %d of one free sector", j.Room())
			}
			continue
		}
		mustAppend(t, j, make([]byte, room))
	}
}

// P4.2: a dead journal has no room.
func TestRoomOfTheDead(t *testing.T) {
	d := newDisk(t, 4)
	j, _ := mustOpen(t, d, 0, 4, 1)
	if j.Room() != 4*242-4 {
		t.Errorf("Room %d of a ring of four", j.Room())
	}
	d.Fail()
	j.Sync()
	if j.Room() != 0 {
		t.Errorf("Room %d of a dead journal", j.Room())
	}
}

// P4.4: opened again without a crash, synced or not, a journal has all records from Start on.
func TestOpenedAgain(t *testing.T) {
	d := newDisk(t, 8)
	j, _ := mustOpen(t, d, 1, 6, 1)
	mustAppend(t, j, []byte("a"))
	mustAppend(t, j, text('b', 600))
	mustAppend(t, j, []byte("c"))
	_, records := mustOpen(t, d, 1, 6, j.Start())
	wantRecords(t, records, "a", string(text('b', 600)), "c")
	mustTrim(t, j, 5)
	mustAppend(t, j, text('d', 900))
	again, records := mustOpen(t, d, 1, 6, j.Start())
	wantRecords(t, records, "c", string(text('d', 900)))
	wantBounds(t, again, 5, j.Next())
	mustTrim(t, j, j.Next())
	again, records = mustOpen(t, d, 1, 6, j.Start())
	wantRecords(t, records)
	wantBounds(t, again, 10, 10)
}

// P4.3: of records behind the last sync just the first ones that a crash has kept whole are there.
func TestWhatACrashLeaves(t *testing.T) {
	for _, c := range []struct {
		kept []int
		want []string
	}{
		{nil, []string{"safe"}},
		{[]int{256, 256, 256, 256}, []string{"safe", "one", string(text('t', 400)), "three"}},
		{[]int{256, 256, 256}, []string{"safe", "one", string(text('t', 400))}},
		{[]int{256, 256, 100, 256}, []string{"safe", "one"}},
		{[]int{256, 0, 256, 256}, []string{"safe", "one"}},
		{[]int{5, 256, 256, 256}, []string{"safe"}},
	} {
		d := newDisk(t, 8)
		j, _ := mustOpen(t, d, 0, 8, 1)
		mustAppend(t, j, []byte("safe"))
		mustSync(t, j)
		mustAppend(t, j, []byte("one"))
		mustAppend(t, j, text('t', 400))
		mustAppend(t, j, []byte("three"))
		d.Crash(c.kept)
		_, records := mustOpen(t, d, 0, 8, 1)
		wantRecords(t, records, c.want...)
	}
}

// P4.5: a record that a crash has kept behind a lost one does not come back when one more is appended in the lost one's place.
func TestNothingComesBack(t *testing.T) {
	d := newDisk(t, 8)
	j, _ := mustOpen(t, d, 0, 8, 1)
	mustAppend(t, j, []byte("safe"))
	mustSync(t, j)
	mustAppend(t, j, []byte("lost"))
	mustAppend(t, j, []byte("stray"))
	d.Crash([]int{0, 256})
	j, records := mustOpen(t, d, 0, 8, 1)
	wantRecords(t, records, "safe")
	mustAppend(t, j, []byte("newer"))
	mustSync(t, j)
	d.Crash(nil)
	j, records = mustOpen(t, d, 0, 8, 1)
	wantRecords(t, records, "safe", "newer")
	wantBounds(t, j, 1, 3)
}
