package node

import (
	"fmt"
	"strings"
	"testing"

	"almoner/api"
	"almoner/codec"
	"almoner/disk"
	"almoner/raft"
	"almoner/store"
)

// writeTo writes pairs into the store on a disk.
func writeTo(t *testing.T, d *disk.Disk, l ...api.Pair) {
	t.Helper()
	s, why := store.Open(d)
	if why == api.OK {
		why = s.Write(l)
	}
	if why != api.OK {
		t.Fatalf("the store: %d", why)
	}
}

// pairsOn are the pairs of the store on a disk.
func pairsOn(t *testing.T, d *disk.Disk) []api.Pair {
	t.Helper()
	s, why := store.Open(d)
	if why != api.OK {
		t.Fatalf("the store: %d", why)
	}
	var l []api.Pair
	for key, val := range s.Each("") {
		l = append(l, api.Pair{Key: key, Val: val})
	}
	return l
}

func wantForm(t *testing.T, what string, d *disk.Disk) {
	t.Helper()
	if x, why := New(0, 3, 2, d); x != nil || why != api.ErrForm {
		t.Errorf("%s: New: %v, %d; want nil, %d", what, x, why, api.ErrForm)
	}
}

// P19.1: on a disk on which something else stands no machine starts.
func TestNoMachines(t *testing.T) {
	entry := codec.Bytes(codec.Int(nil, 1), []byte("cmd"))
	for _, c := range [][]api.Pair{
		{{Key: "x"}},
		{{Key: "h"}},
		{{Key: "h0"}},
		{{Key: "h0", Val: []byte("none")}},
		{{Key: "h0", Val: append(head{shards: 2, voted: -1}.bytes(), 0)}},
		{{Key: "h3", Val: head{shards: 2, voted: -1}.bytes()}},
		{{Key: "h/", Val: head{shards: 2, voted: -1}.bytes()}},
		{{Key: "hh", Val: head{shards: 2, voted: -1}.bytes()}},
		{{Key: "h0", Val: head{shards: 1, voted: -1}.bytes()}},
		{{Key: "h0", Val: head{shards: 3, voted: -1}.bytes()}},
		{{Key: "h0", Val: head{shards: 2, voted: 3}.bytes()}},
		{{Key: "h0", Val: head{shards: 2, voted: -2}.bytes()}},
		{{Key: "h0", Val: head{shards: 2, term: -1, voted: -1}.bytes()}},
		{{Key: "h0", Val: head{shards: 2, term: 1<<60 + 1, voted: -1}.bytes()}},
		{{Key: "h0", Val: head{shards: 2, voted: -1, base: -1, last: -1}.bytes()}},
		{{Key: "h0", Val: head{shards: 2, voted: -1, base: 1<<60 + 1, last: 1<<60 + 1}.bytes()}},
		{{Key: "h0", Val: head{shards: 2, voted: -1, behind: 1}.bytes()}},
		{{Key: "h0", Val: head{shards: 2, term: 1, voted: -1, last: 1}.bytes()}},
		{{Key: "h0", Val: head{shards: 2, term: 1, voted: -1, last: -1}.bytes()}},
		{{Key: "h0", Val: head{shards: 2, term: 1, voted: -1, last: 1 << 62}.bytes()}},
		{{Key: "h0", Val: head{shards: 2, term: 1, voted: -1, base: 5, behind: 1, last: 5}.bytes()}},
		{{Key: "h0", Val: head{shards: 2, term: 1, voted: -1, side: 2}.bytes()}},
		{{Key: "h0", Val: head{shards: 2, term: 1, voted: -1, size: -1}.bytes()}},
		{{Key: "h0", Val: head{shards: 2, term: 1, voted: -1, size: 4}.bytes()}},
		{{Key: "h0", Val: head{shards: 2, term: 1, voted: -1, size: 1 << 40}.bytes()}},
		{{Key: "h0", Val: head{shards: 2, term: 0, voted: -1, last: 1}.bytes()}, {Key: "e0\x01", Val: entry}},
		{{Key: "h0", Val: head{shards: 2, term: 1, voted: -1, last: 1}.bytes()}, {Key: "e0\x01", Val: entry[1:]}},
		{{Key: "h0", Val: head{shards: 2, term: 1, voted: -1, last: 1}.bytes()}, {Key: "e0\x01", Val: append(entry, 0)}},
		{{Key: "h0", Val: head{shards: 2, term: 1, voted: -1, last: 1}.bytes()}, {Key: "e0\x01", Val: codec.Bytes(codec.Int(nil, 1), make([]byte, raft.MostCmd+1))}},
		{{Key: "h0", Val: head{shards: 2, term: 1, voted: -1, last: 1}.bytes()}, {Key: "e1\x01", Val: entry}},
		{{Key: "h0", Val: head{shards: 2, voted: -1}.bytes()}, {Key: "e1\x01", Val: entry}},
		{{Key: "h0", Val: head{shards: 2, voted: -1}.bytes()}, {Key: "e0", Val: entry}},
		{{Key: "h0", Val: head{shards: 2, voted: -1}.bytes()}, {Key: "e0\x81", Val: entry}},
		{{Key: "h0", Val: head{shards: 2, voted: -1}.bytes()}, {Key: "e0\x01\x01", Val: entry}},
		{{Key: "h0", Val: head{shards: 2, voted: -1}.bytes()}, {Key: "f0\x01", Val: entry}},
		{{Key: "h0", Val: head{shards: 2, voted: -1}.bytes()}, {Key: "s0\x02\x01"}},
		{{Key: "h0", Val: head{shards: 2, voted: -1}.bytes()}, {Key: "s0\x01"}},
		{{Key: "h0", Val: head{shards: 2, voted: -1}.bytes()}, {Key: "h00"}},
		{{Key: "e0\x01", Val: entry}},
	} {
		d := newDisk(t, 128)
		writeTo(t, d, c...)
		wantForm(t, fmt.Sprintf("%v", c), d)
	}
}

// P19.1, P3: what a change that came to no end may have left is no fault, and counts for nothing.
func TestWhatMayBeLeft(t *testing.T) {
	d := newDisk(t, 128)
	writeTo(t, d,
		api.Pair{Key: headKey(1), Val: head{shards: 2, term: 4, voted: 2}.bytes()},
		api.Pair{Key: entryKey(1, 1), Val: []byte("left")},
		api.Pair{Key: entryKey(1, 300), Val: []byte("left")},
		api.Pair{Key: pieceKey(1, 0, 0), Val: []byte("left")},
		api.Pair{Key: pieceKey(1, 1, 40)})
	x := newNode(t, 0, 3, 2, d)
	if got, want := x.Info(1), (raft.Info{Term: 4, Voted: 2, Leader: -1}); got != want {
		t.Fatalf("%+v; want %+v", got, want)
	}
	x.Handle(1, raftOf(t, api.Msg{Kind: api.Vote, Group: 0, From: 1, To: 0, Term: 1}))
	if l := pairsOn(t, d); len(l) != 2 || l[0].Key != headKey(0) || l[1].Key != headKey(1) {
		t.Errorf("there stands %v", l)
	}
}

// P19.1: on a machine's disk of which something is missing, or is another thing, no machine starts.
func TestSpoiltMachines(t *testing.T) {
	w := newTrio(t, 2, 1024)
	for i := range 120 {
		w.wantAnswer(open(fmt.Sprint("a_name_of_many_bytes_", i), "a_key_of_many_bytes"), api.Reply{})
	}
	d := w.disks[0]
	d.Crash(nil)
	newNode(t, 0, 3, 2, d)
	kinds := map[byte]int{}
	for _, p := range pairsOn(t, d) {
		kinds[p.Key[0]]++
		gone := d.Copy()
		writeTo(t, gone, api.Pair{Key: p.Key, Del: true})
		wantForm(t, fmt.Sprintf("without %q", p.Key), gone)
		for _, val := range [][]byte{nil, p.Val[1:], p.Val[:len(p.Val)-1], append(p.Val[:len(p.Val):len(p.Val)], 0), []byte(strings.Repeat("\xff", len(p.Val)))} {
			other := d.Copy()
			writeTo(t, other, api.Pair{Key: p.Key, Val: val})
			wantForm(t, fmt.Sprintf("with %q of %d bytes", p.Key, len(val)), other)
		}
	}
	if kinds['h'] != 3 || kinds['e'] < 3 || kinds['s'] < 4 {
		t.Errorf("pairs of the kinds %v: too few to tell anything", kinds)
	}
}

// P19.1: a machine does not start as one of fewer shards, nor of other ones.
func TestOtherShards(t *testing.T) {
	d := newDisk(t, 256)
	newAlone(t, 2, d)
	for _, shards := range []int{1, 3} {
		if y, why := New(0, 1, shards, d.Copy()); y != nil || why != api.ErrForm {
			t.Errorf("New of %d shards: %v, %d", shards, y, why)
		}
	}
}
