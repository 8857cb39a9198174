package store

import (
	"bytes"
	"fmt"
	"maps"
	"math/rand"
	"slices"
	"strings"
	"testing"

	"almoner/api"
	"almoner/disk"
	"almoner/journal"
	"almoner/pager"
)

// P7.1, P1: calls of nil, and of a store that was never opened.
func TestNil(t *testing.T) {
	var s *Store
	wrong := []api.Pair{{Key: ""}}
	for _, l := range [][]api.Pair{nil, batch("a=1"), wrong} {
		if why := s.Write(l); why != api.ErrNil {
			t.Errorf("Write: %d", why)
		}
	}
	if why := s.Checkpoint(); why != api.ErrNil {
		t.Errorf("Checkpoint: %d", why)
	}
	for _, s := range []*Store{nil, {}} {
		if val, is := s.Get("a"); val != nil || is {
			t.Errorf("Get: %v, %v", val, is)
		}
		if told(s, "") != "" || s.Len() != 0 || s.Dead() {
			t.Errorf("Each %q, Len %d, Dead %v", told(s, ""), s.Len(), s.Dead())
		}
	}
	s = &Store{}
	if why := s.Write(batch("a=1")); why == api.OK || s.Checkpoint() == api.OK {
		t.Error("a store without a disk writes")
	}
}

// P7.2: the chapter's example.
func TestExample(t *testing.T) {
	s, d := newStore(t, 64)
	mustWrite(t, s, batch("a=1 b=2"))
	mustWrite(t, s, batch("-a c=3"))
	wantTold(t, s, "b=2 c=3")
	d.Fail()
	if why := s.Write(batch("d=4 -b")); why != api.ErrSync {
		t.Fatalf("the third Write: %d", why)
	}
	d.Crash(nil)
	wantTold(t, mustOpen(t, d), "b=2 c=3")
}

// P7.2: the pairs of a batch are done one behind the other; one of no pairs is written, too.
func TestWrite(t *testing.T) {
	s, d := newStore(t, 64)
	for _, c := range []struct{ batch, want string }{
		{"", ""},
		{"a=1 a=2 -b b=3", "a=2 b=3"},
		{"-a", "b=3"},
		{"c=1 -c", "b=3"},
		{"-c c=1 -b", "c=1"},
		{"-nothing", "c=1"},
		{"c=", "c="},
		{"c=longer d=0", "c=longer d=0"},
		{"", "c=longer d=0"},
		{"-c -d", ""},
	} {
		mustWrite(t, s, batch(c.batch))
		wantTold(t, s, c.want)
		if d.Unsynced() != 0 || s.Dead() {
			t.Fatalf("%q: %d writes are not safe", c.batch, d.Unsynced())
		}
		wantTold(t, mustOpen(t, loadDisk(t, d.Image())), c.want)
	}
	mustWrite(t, s, greatest())
	wantStore(t, s, mapOf(greatest()))
	if val, is := s.Get("\x00"); len(val) != 0 || !is {
		t.Errorf("Get of an empty value: %v, %v", val, is)
	}
}

// Words, P7.2: the batches stand in a journal on the last half of the sectors, each a record; behind a checkpoint the root, on the others, says from which number on they count.
func TestPlaces(t *testing.T) {
	for _, sectors := range []int{64, 100, 256} {
		s, d := newStore(t, sectors)
		batches := [][]api.Pair{batch("a=1 b=2"), nil, numbered(3, 8, 300), batch("-a")}
		for _, l := range batches {
			mustWrite(t, s, l)
		}
		half := sectors / 2
		_, records, why := journal.Open(d.Copy(), half, half, 1)
		if why != api.OK || len(records) != len(batches) {
			t.Fatalf("journal.Open: %d records, %d", len(records), why)
		}
		for i, l := range batches {
			if !bytes.Equal(records[i], mustBatch(t, l)) {
				t.Errorf("the record %d is %x", i, records[i])
			}
		}
		mustCheckpoint(t, s)
		mustWrite(t, s, batch("z=1"))
		_, root, _ := pager.Open(d, 0, half)
		j, records, _ := journal.Open(d.Copy(), half, half, root.Next)
		if root.Gen != 1 || root.Page == -1 || len(records) != 1 || j.Start() != 8 || !bytes.Equal(records[0], mustBatch(t, batch("z=1"))) {
			t.Errorf("the root is %v, from %d on there are the records %x", root, j.Start(), records)
		}
	}
}

// P7.2, P1: what Write refuses, in the order of its errors; nothing is written then.
func TestErrorsOfWrite(t *testing.T) {
	s, d := newStore(t, 64)
	mustWrite(t, s, batch("a=1"))
	image := d.Image()
	long := numbered(5, 20, 2000)
	for name, p := range wrongPairs() {
		for _, l := range [][]api.Pair{{p}, {{Key: "b"}, p}, append(long, p)} {
			if why := s.Write(l); why != api.ErrArg {
				t.Errorf("%s: %d", name, why)
			}
		}
	}
	if why := s.Write(long); why != api.ErrSize {
		t.Errorf("a long batch: %d", why)
	}
	if !bytes.Equal(d.Image(), image) || d.Unsynced() != 0 || s.Dead() {
		t.Error("a refused Write writes")
	}
	wantTold(t, s, "a=1")
	d.Fail()
	if why := s.Write(batch("b=1")); why != api.ErrSync {
		t.Errorf("Write of a sync that fails: %d", why)
	}
	wantDead(t, s, map[string]string{"a": "1"})
}

// P7.2: a batch of 8192 bytes is written, on disks whose journal has room for it; where an empty one has none, nothing is written, and the store is not dead.
func TestGreatBatches(t *testing.T) {
	for _, c := range []struct{ sectors, most int }{{64, 7740}, {66, 7982}, {68, 8192}, {256, 8192}} {
		s, d := newStore(t, c.sectors)
		mustWrite(t, s, batch("a=1"))
		for range 3 {
			mustWrite(t, s, sized(t, c.most))
		}
		want := mapOf(batch("a=1"), sized(t, c.most))
		wantStore(t, s, want)
		wantStore(t, mustOpen(t, d.Copy()), want)
		if c.most == 8192 {
			continue
		}
		image := d.Image()
		for _, spoil := range []func(){func() {}, func() { d.Full(true) }, func() { d.Fail() }, func() { d.Sync() }} {
			spoil()
			if why := s.Write(sized(t, c.most+1)); why != api.ErrFull || s.Dead() {
				t.Fatalf("a batch of %d bytes: %d, dead %v", c.most+1, why, s.Dead())
			}
		}
		if !bytes.Equal(d.Image(), image) || d.Unsynced() != 0 {
			t.Error("it writes what it has no room for")
		}
		wantStore(t, s, want)
		d.Crash(nil)
		mustWrite(t, s, batch("b=2"))
		want["b"] = "2"
		wantStore(t, mustOpen(t, d), want)
	}
}

// P7.2, P7.3: where the tree has no room for all, batches are written as long as the journal has room; then ErrFull, nothing is written, and the store is not dead, whatever else is wrong with the disk.
func TestFullStore(t *testing.T) {
	s, d := newStore(t, 64)
	var l []api.Pair
	why := api.OK
	for i := 0; why == api.OK && i < 100; i++ {
		p := api.Pair{Key: fmt.Sprint("key", i), Val: fill(i, 700)}
		if why = s.Write([]api.Pair{p}); why == api.OK {
			l = append(l, p)
		}
	}
	if why != api.ErrFull || s.Dead() || len(l) < 8 {
		t.Fatalf("%d of the batches were written, then %d", len(l), why)
	}
	image := d.Image()
	for _, spoil := range []func(){func() {}, func() { d.Full(true) }, func() { d.Fail() }, func() { d.Sync() }} {
		spoil()
		if why := s.Write(numbered(1, 5, 700)); why != api.ErrFull || s.Dead() {
			t.Errorf("Write: %d, dead %v", why, s.Dead())
		}
		if why := s.Checkpoint(); why != api.ErrFull || s.Dead() {
			t.Errorf("Checkpoint: %d, dead %v", why, s.Dead())
		}
	}
	if !bytes.Equal(d.Image(), image) || d.Unsynced() != 0 {
		t.Error("it writes what it has no room for")
	}
	wantStore(t, s, mapOf(l))
	d.Crash(nil)
	wantStore(t, mustOpen(t, d), mapOf(l))
}

// P7.3: behind a checkpoint all stands in the tree, and the journal has all its room.
func TestCheckpoint(t *testing.T) {
	s, d := newStore(t, 64)
	want := map[string]string{}
	for i := range 20 {
		mustCheckpoint(t, s)
		wantStore(t, s, want)
		half := d.Size() / 2
		_, root, _ := pager.Open(d, 0, half)
		j, records, why := journal.Open(d.Copy(), half, half, root.Next)
		if why != api.OK || len(records) != 0 || j.Room() != 7740 || s.journal.Room() != 7740 || root.Gen != int64(i+1) {
			t.Fatalf("the root is %v; %d records, room for %d, %d; %d", root, len(records), j.Room(), s.journal.Room(), why)
		}
		wantStore(t, mustOpen(t, d.Copy()), want)
		l := numbered(1+i/10, 3+i%8, i*30)
		if i%3 == 2 {
			l = append(l, api.Pair{Key: l[0].Key, Del: true})
		}
		mustWrite(t, s, l)
		want = mapOf(pairsOf(want), l)
		mustWrite(t, s, []api.Pair{{Key: fmt.Sprint(i)}, {Key: fmt.Sprint(i), Del: true}})
		if i%5 == 4 {
			s = mustOpen(t, d)
		}
		drop(t, s, want, 3)
	}
}

// pairsOf is a batch that puts what is there, in some order.
func pairsOf(m map[string]string) []api.Pair {
	var l []api.Pair
	for k, v := range m {
		l = append(l, api.Pair{Key: k, Val: []byte(v)})
	}
	return l
}

// P7.3, P7.7: values of all lengths, of keys of all lengths, stand in the tree as they were; so do keys that a tree would take for parts of one another.
func TestValuesInTheTree(t *testing.T) {
	for length := 1; length <= MostKey; length++ {
		s, d := newStore(t, 4096)
		var l []api.Pair
		for i, size := range []int{0, 1, 50, 57, 58, 59, 76, 77, 78, 79, 80, 81, 115, 116, 117, 153, 154, 155, 160, 1999, 2000} {
			l = append(l, api.Pair{Key: string(rune('a'+i)) + strings.Repeat("k", length-1), Val: fill(i, size)})
			full := fullPiece(l[i].Key)
			l = append(l, api.Pair{Key: string(rune('A'+i)) + strings.Repeat("K", length-1), Val: fill(i, full*(1+i))})
		}
		writeAll(t, s, l)
		mustCheckpoint(t, s)
		wantStore(t, mustOpen(t, d), mapOf(l))
	}
	s, d := newStore(t, 256)
	var l []api.Pair
	for _, k := range []string{"\x00", "\x00\x00", "\x00\x01", "\x01", "\x01\x00", "a", "a\x00", "a\x00\x00", "a\x01", "a\x02", "a\xff", "aa", "\xff", "\xff\xff"} {
		l = append(l, api.Pair{Key: k, Val: fill(len(l), 150)})
	}
	writeAll(t, s, l)
	mustCheckpoint(t, s)
	wantStore(t, mustOpen(t, d), mapOf(l))
}

// P7.2, P7.3, P5: an error of the disk is the call's, and the store is dead from then on: it takes nothing, until it is opened again.
func TestDiskErrors(t *testing.T) {
	calls := map[string]func(*Store) api.Errno{
		"Write":      func(s *Store) api.Errno { return s.Write(batch("new=1")) },
		"Checkpoint": func(s *Store) api.Errno { return s.Checkpoint() },
	}
	for name, call := range calls {
		for _, c := range []struct {
			spoil func(*disk.Disk)
			want  api.Errno
		}{
			{func(d *disk.Disk) { d.Fail() }, api.ErrSync},
			{func(d *disk.Disk) { d.Full(true) }, api.ErrFull},
			{func(d *disk.Disk) { d.Fail(); d.Sync() }, api.ErrDead},
		} {
			for _, text := range []string{"", "a=1 b=2"} {
				s, d := newStore(t, 64)
				mustWrite(t, s, batch(text))
				c.spoil(d)
				if why := call(s); why != c.want {
					t.Errorf("%s: %d, want %d", name, why, c.want)
				}
				d.Full(false)
				wantDead(t, s, mapOf(batch(text)))
				d.Crash(nil)
				wantDead(t, s, mapOf(batch(text)))
				s = mustOpen(t, d)
				wantStore(t, s, mapOf(batch(text)))
				mustWrite(t, s, batch("new=2"))
				mustCheckpoint(t, s)
			}
		}
	}
}

// P7.2: an error of the disk in the checkpoint that a Write makes room by is Write's, and the store is dead.
func TestDiskErrorsOfMakingRoom(t *testing.T) {
	for want, spoil := range map[api.Errno]func(*disk.Disk){
		api.ErrSync: func(d *disk.Disk) { d.Fail() },
		api.ErrFull: func(d *disk.Disk) { d.Full(true) },
		api.ErrDead: func(d *disk.Disk) { d.Fail(); d.Sync() },
	} {
		s, d := newStore(t, 64)
		mustWrite(t, s, batch("a=1"))
		for range 5 {
			mustWrite(t, s, numbered(1, 3, 1000))
		}
		has := mapOf(batch("a=1"), numbered(1, 3, 1000))
		spoil(d)
		if why := s.Write(numbered(2, 4, 2000)); why != want {
			t.Errorf("Write: %d, want %d", why, want)
		}
		wantDead(t, s, has)
		d.Crash(nil)
		wantStore(t, mustOpen(t, d), has)
	}
}

// P7.2: Get and Each, by heads, in the order of the bytes.
func TestEach(t *testing.T) {
	s, _ := newStore(t, 64)
	mustWrite(t, s, batch("b=1 ab=2 a=3 abc=4 \xff=5 a\xff=6 A=7 \x00=8"))
	for head, want := range map[string]string{
		"":        "\x00=8 A=7 a=3 ab=2 abc=4 a\xff=6 b=1 \xff=5",
		"a":       "a=3 ab=2 abc=4 a\xff=6",
		"ab":      "ab=2 abc=4",
		"abc":     "abc=4",
		"abcd":    "",
		"a\xff":   "a\xff=6",
		"\xff":    "\xff=5",
		"\xffx":   "",
		"B":       "",
		"\x00":    "\x00=8",
		"ab\xff":  "",
		long("a"): "",
	} {
		if got := told(s, head); got != want {
			t.Errorf("Each(%q): %q, want %q", head, got, want)
		}
	}
	for _, key := range []string{"", "abcd", "B", long("a")} {
		if val, is := s.Get(key); val != nil || is {
			t.Errorf("Get(%q): %v, %v", key, val, is)
		}
	}
	if val, is := s.Get("abc"); string(val) != "4" || !is || s.Len() != 8 {
		t.Errorf("Get: %q, %v; Len %d", val, is, s.Len())
	}
	for range s.Each("") {
		break
	}
}

func long(s string) string {
	return strings.Repeat(s, 1000)
}

// P7.2: Each goes through what was there when it was called, whatever is written since, and as often as one likes.
func TestEachAsItWas(t *testing.T) {
	s, _ := newStore(t, 64)
	mustWrite(t, s, batch("a=1 b=2 c=3"))
	all := s.Each("")
	mustWrite(t, s, batch("a=9 -b d=4"))
	mustCheckpoint(t, s)
	for range 2 {
		got := ""
		for k, v := range all {
			got += k + "=" + string(v) + " "
			v[0] = 'x'
			_ = append(v, "more"...)
			mustWrite(t, s, []api.Pair{{Key: k, Del: true}, {Key: "new" + k, Val: v}})
		}
		if got != "a=1 b=2 c=3 " {
			t.Errorf("Each: %s", got)
		}
	}
	wantTold(t, s, "d=4 newa=x newb=x newc=x")
}

// P1 (rules 4, 5): what is handed in is not changed and not kept; what is answered shares no memory with what is kept.
func TestMemory(t *testing.T) {
	s, d := newStore(t, 64)
	l := batch("a=11 b=22")
	mustWrite(t, s, l)
	if !samePairs(l, batch("a=11 b=22")) {
		t.Error("Write changes the batch")
	}
	l[0].Val[0] = 'x'
	_ = append(l[1].Val[:1], 'y')
	l[0].Key = "z"
	wantTold(t, s, "a=11 b=22")
	for range 2 {
		val, _ := s.Get("a")
		val[0] = 'x'
		_ = append(val, "more"...)
		for _, v := range s.Each("") {
			v[1] = 'y'
			_ = append(v, "more"...)
		}
		wantTold(t, s, "a=11 b=22")
		mustCheckpoint(t, s)
		s = mustOpen(t, d)
	}
}

// P7.5: on 256 sectors there is room for 20 keys of 20 bytes with values of 100 bytes each, whatever is written one after another.
func TestRoom(t *testing.T) {
	for seed := range int64(6) {
		r := rand.New(rand.NewSource(seed))
		s, d := newStore(t, 256)
		want := map[string]string{}
		keys := numbered(20, 20, 0)
		for n := range 1500 {
			var l []api.Pair
			for range 1 + r.Intn(1+int(seed)*12) {
				p := api.Pair{Key: keys[r.Intn(20)].Key, Del: r.Intn(9) == 0}
				if !p.Del {
					p.Val = fill(r.Int(), 100-r.Intn(2)*r.Intn(101))
				}
				l = append(l, p)
			}
			mustWrite(t, s, l)
			want = mapOf(pairsOf(want), l)
			switch r.Intn(100) {
			case 0:
				mustCheckpoint(t, s)
			case 1:
				d.Crash(nil)
				s = mustOpen(t, d)
			}
			if n%50 == 0 {
				wantStore(t, s, want)
			}
		}
		wantStore(t, s, want)
	}
}

// P7.5: so it is, too, behind a time at which there was as much as the journal, or all pages of the tree, had room for.
func TestRoomBehindMore(t *testing.T) {
	for _, each := range []bool{true, false} {
		s, _ := newStore(t, 256)
		var gone []api.Pair
		for i := range 108 {
			p := api.Pair{Key: fmt.Sprintf("%04d", i), Val: fill(i, 200)}
			mustWrite(t, s, []api.Pair{p})
			gone = append(gone, api.Pair{Key: p.Key, Del: true})
			if each && s.Checkpoint() == api.ErrFull {
				break
			}
		}
		if len(gone) < 50 {
			t.Fatalf("the tree has no room for %d keys", len(gone))
		}
		s.Checkpoint()
		mustWrite(t, s, gone)
		want := map[string]string{}
		for n := range 1000 {
			p := numbered(20, 20, 100)[n%20]
			mustWrite(t, s, []api.Pair{p})
			want[p.Key] = string(p.Val)
		}
		wantStore(t, s, want)
	}
}

// P7.3: on a disk that was made by hand the tree may have more pages than a store gives it: where there is no room for another one beside it, all is as it was.
func TestGreatTree(t *testing.T) {
	var l []api.Pair
	for i := range 18 {
		l = append(l, cut(fmt.Sprintf("%04d", i), fill(i, 200))...)
	}
	d := flipped(t, l, "")
	s := mustOpen(t, d)
	want := has(t, s)
	for _, keys := range []int{18, 13} {
		drop(t, s, want, keys)
		image := d.Image()
		if why := s.Checkpoint(); why != api.ErrFull || s.Dead() {
			t.Fatalf("Checkpoint of %d keys: %d", keys, why)
		}
		if d.Unsynced() != 0 || !bytes.Equal(d.Image(), image) {
			t.Error("it writes what it has no room for")
		}
		wantStore(t, s, want)
	}
	drop(t, s, want, 3)
	mustCheckpoint(t, s)
	wantStore(t, mustOpen(t, d), want)
	writeAll(t, s, numbered(9, 4, 200))
	mustCheckpoint(t, s)
}

// drop deletes keys until so many are left.
func drop(t *testing.T, s *Store, has map[string]string, left int) {
	t.Helper()
	for _, k := range slices.Sorted(maps.Keys(has)) {
		if len(has) > left {
			mustWrite(t, s, []api.Pair{{Key: k, Del: true}})
			delete(has, k)
		}
	}
}
