package node

import (
	"math/rand"
	"testing"

	"almoner/api"
	"almoner/codec"
	"almoner/shard"
)

// anyLetter is a letter that may come to a machine, or nearly.
func anyLetter(t testing.TB, r *rand.Rand, shards int) []byte {
	t.Helper()
	c := shard.Cmd{Kind: r.Intn(12), Op: anyOp(r, shards), Id: []string{"", "i", "ann/k1/1.1"}[r.Intn(3)], Name: names[r.Intn(len(names))], N: r.Int63n(9) - 1, Why: api.Errno(r.Intn(3) * 25), Slot: r.Intn(18) - 1, Epoch: r.Int63n(5), At: r.Intn(3), Last: r.Intn(2) == 0}
	m := api.Msg{Kind: 1 + r.Intn(6), Group: r.Intn(shards + 1), From: 1, Term: 1 + r.Int63n(4), Index: r.Int63n(9), LogTerm: r.Int63n(3), Commit: r.Int63n(9), Ok: r.Intn(2) == 0}
	for range r.Intn(4) {
		m.Entries = append(m.Entries, api.Entry{Term: 1 + r.Int63n(3), Cmd: shard.Bytes(c)})
	}
	switch r.Intn(5) {
	case 0:
		return raftOf(t, m)
	case 1:
		return askOf(t, r.Int63n(6)-1, r.Intn(4), c)
	case 2:
		result := shard.Result{Why: api.Errno(r.Intn(3) * 25), Wait: r.Intn(2) == 0, Data: codec.Bytes(nil, []byte("data"))}
		return answerOf(t, r.Int63n(6)-1, r.Intn(4), c, result)
	}
	return callOf(t, r.Int63n(9), anyOp(r, shards))
}

// hand hands bytes to a machine; a dead one starts again.
func hand(t *testing.T, w *world, i int, b []byte) {
	t.Helper()
	from := w.r.Intn(7) - 1
	l := w.nodes[i].Handle(from, b)
	if w.nodes[i].Dead() {
		wantOuts(t, l)
		w.disks[i].Crash(nil)
		w.start(i)
	}
}

// P1, P19.1, P19.4: whatever comes, no call panics, and a machine starts again with all that it had.
func TestJunk(t *testing.T) {
	for seed := range int64(150) {
		shards := 1 + int(seed)%3
		w := newWorld(t, seed, 1+int(seed)%2, shards, 256)
		for range 150 {
			b := anyLetter(t, w.r, shards)
			for range w.r.Intn(3) {
				b[w.r.Intn(len(b))] = byte(w.r.Intn(256))
			}
			hand(t, w, 0, b[:len(b)-w.r.Intn(2)*w.r.Intn(len(b))])
			if w.r.Intn(3) == 0 {
				w.nodes[0].Tick()
			}
		}
		was := safeOf(w.nodes[0])
		w.disks[0].Crash(nil)
		w.start(0)
		for g, s := range safeOf(w.nodes[0]) {
			if !sameSafe(s, was[g]) {
				t.Fatalf("seed %d: the group %d has %+v; want %+v", seed, g, s, was[g])
			}
		}
	}
}

// FuzzHandle: P1, P19.1: no bytes make a machine panic, whether it leads or not.
func FuzzHandle(f *testing.F) {
	r := rand.New(rand.NewSource(1))
	for range 60 {
		f.Add(1+r.Intn(2), anyLetter(f, r, 2))
	}
	f.Fuzz(func(t *testing.T, n int, b []byte) {
		w := newWorld(t, 1, 1+max(n, 0)%3, 2, 64)
		for range 12 {
			w.nodes[0].Tick()
		}
		for range 3 {
			hand(t, w, 0, b)
			w.nodes[0].Tick()
		}
	})
}
