package journal

import (
	"bytes"
	"math/rand"
	"testing"

	"almoner/api"
	"almoner/disk"
)

// kept is a record that a test has appended.
type kept struct {
	b      []byte
	behind int64 // the number behind it
}

// trial is a journal, and what must be found of it behind a crash.
type trial struct {
	t       *testing.T
	r       *rand.Rand
	d       *disk.Disk
	from    int
	size    int
	j       *Journal
	records []kept // those from Start on
	safe    int    // how many of them were there at the last sync
	count   int
}

func newTrial(t *testing.T, seed int64) *trial {
	r := rand.New(rand.NewSource(seed))
	x := &trial{t: t, r: r, from: r.Intn(3), size: 2 + r.Intn(9)}
	x.d = newDisk(t, x.from+x.size+r.Intn(2))
	x.j, _ = mustOpen(t, x.d, x.from, x.size, 1+r.Int63n(30))
	return x
}

// add appends a record that no other one is like.
func (x *trial) add() {
	x.count++
	b := make([]byte, x.r.Intn(700))
	x.r.Read(b)
	b = append(b, byte(x.count), byte(x.count>>8))
	room := x.j.Room()
	why := x.j.Append(b)
	if (why == api.OK) != (len(b) <= room) {
		x.t.Fatalf("Append of %d bytes: %d, of room %d", len(b), why, room)
	}
	if why == api.OK {
		x.records = append(x.records, kept{b, x.j.Next()})
	}
}

func (x *trial) sync() {
	if x.r.Intn(6) == 0 {
		x.d.Fail()
		if why := x.j.Sync(); why != api.ErrSync {
			x.t.Fatalf("Sync: %d", why)
		}
		x.crash()
		return
	}
	mustSync(x.t, x.j)
	x.safe = len(x.records)
}

// trim lets go of some first records; they must be safe, as whoever trims has put them elsewhere.
func (x *trial) trim() {
	n := x.r.Intn(x.safe + 1)
	if n == 0 {
		return
	}
	mustTrim(x.t, x.j, x.records[n-1].behind)
	x.records, x.safe = x.records[n:], x.safe-n
}

// crash tears what is not safe, and opens the journal from its Start on: all safe records are there, and some first ones of the others.
func (x *trial) crash() {
	keeps := make([]int, x.r.Intn(x.d.Unsynced()+3))
	for i := range keeps {
		keeps[i] = []int{0, 256, 256, x.r.Intn(256), 13, 14}[x.r.Intn(6)]
	}
	x.d.Crash(keeps)
	x.reopen(x.safe)
}

// reopen opens the journal from its Start on, where at least so many records must be, and goes on with what is there.
func (x *trial) reopen(least int) {
	x.t.Helper()
	start := x.j.Start()
	j, got := mustOpen(x.t, x.d, x.from, x.size, start)
	if len(got) < least || len(got) > len(x.records) {
		x.t.Fatalf("%d records are there, of %d, %d of them safe", len(got), len(x.records), least)
	}
	next := start
	for i, b := range got {
		if !bytes.Equal(b, x.records[i].b) {
			x.t.Fatalf("the record %d of %d is another one", i, len(got))
		}
		next = x.records[i].behind
	}
	wantBounds(x.t, j, start, next)
	x.j, x.records = j, x.records[:len(got)]
	// What is read behind a crash is safe, and Open syncs what it writes; without a crash some may not be safe yet.
	if x.d.Unsynced() == 0 {
		x.safe = len(got)
	}
}

// P4.3, P4.4, P4.5, P3: whatever is appended, synced, trimmed, torn and opened again, what was synced is there, then some first ones of the others, and nothing else.
func TestWhatLasts(t *testing.T) {
	for seed := range int64(400) {
		x := newTrial(t, seed)
		for range 80 {
			switch what := x.r.Intn(10); {
			case what < 5:
				x.add()
			case what < 7:
				x.sync()
			case what == 7:
				x.trim()
			case what == 8:
				x.crash()
			default:
				x.reopen(len(x.records))
			}
		}
	}
}

// P4.3, P4.5: Open itself may be cut off by a sync that fails and a crash; opened again, it is as before.
func TestOpenThatIsCutOff(t *testing.T) {
	for seed := range int64(300) {
		r := rand.New(rand.NewSource(seed))
		d := newDisk(t, 8)
		j, _ := mustOpen(t, d, 0, 8, 1)
		mustAppend(t, j, []byte("safe"))
		mustSync(t, j)
		for i := range 5 {
			mustAppend(t, j, []byte{byte(i)})
		}
		d.Crash([]int{r.Intn(10), 256, r.Intn(300), 256, 256})
		d.Fail()
		if _, _, why := Open(d, 0, 8, 1); why != api.ErrSync {
			t.Fatalf("Open: %d, want ErrSync", why)
		}
		d.Crash([]int{r.Intn(300), r.Intn(300), r.Intn(300)})
		j, records := mustOpen(t, d, 0, 8, 1)
		wantRecords(t, records, "safe")
		mustAppend(t, j, []byte("newer"))
		mustSync(t, j)
		_, records = mustOpen(t, d, 0, 8, 1)
		wantRecords(t, records, "safe", "newer")
	}
}

// P1: whatever stands on the disk, Open ends, answers what can be appended again, and finds the same a second time.
func FuzzOpen(f *testing.F) {
	f.Add([]byte{}, 0, 4, int64(1))
	f.Add(bytes.Join(plainRecord(1, text('f', 500)), nil), 0, 4, int64(1))
	f.Add(bytes.Join(plainRecord(6, text('f', 300)), nil), 1, 4, int64(5))
	f.Fuzz(func(t *testing.T, image []byte, from, size int, next int64) {
		whole := make([]byte, 6*256)
		copy(whole, image)
		d, _ := disk.Load(whole)
		j, records, why := Open(d, from, size, next)
		if why != api.OK {
			if j != nil || records != nil {
				t.Fatal("Open answers something beside an error")
			}
			return
		}
		if j.Start() != next || j.Next() < next || j.Next() > next+int64(size) || d.Unsynced() != 0 {
			t.Fatalf("Start %d, Next %d of next %d, size %d", j.Start(), j.Next(), next, size)
		}
		again, same := mustOpen(t, d, from, size, next)
		if again.Next() != j.Next() || len(same) != len(records) {
			t.Fatal("a second Open finds something else")
		}
	})
}
