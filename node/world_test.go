package node

import (
	"crypto/sha256"
	"fmt"
	"math/rand"
	"testing"

	"almoner/api"
	"almoner/client"
	"almoner/disk"
)

// world is machines, their disks, and what is on its way between them. It holds all that they do against what was agreed on, and all that they tell against what is safe.
type world struct {
	t      *testing.T
	r      *rand.Rand
	shards int
	disks  []*disk.Disk
	nodes  []*Node
	flight []letter
	told   []told
	away   map[int]int         // who is cut off from all others
	agreed map[place][32]byte  // what a group is behind each place, as the first machine was
	safe   [][]safe            // of each machine, what it must not forget, when it sent something last
	count  map[string]int      // how often something came to pass
	kinds  map[int]map[int]int // how many letters of a kind came to a machine
}

// letter is something on its way.
type letter struct {
	from, to int
	data     []byte
}

// told is what a machine told a client of a call.
type told struct {
	machine int
	n       int64
	reply   api.Reply
}

// place is one of a group's log.
type place struct {
	group int
	at    int64
}

func newWorld(t *testing.T, seed int64, n, shards, sectors int) *world {
	w := &world{t: t, r: rand.New(rand.NewSource(seed)), shards: shards, away: map[int]int{}, agreed: map[place][32]byte{}, count: map[string]int{}}
	for range n {
		w.disks = append(w.disks, newDisk(t, sectors))
	}
	w.nodes, w.safe = make([]*Node, n), make([][]safe, n)
	for i := range n {
		w.start(i)
	}
	return w
}

// start lets a machine begin on its disk.
func (w *world) start(i int) {
	w.t.Helper()
	w.nodes[i] = newNode(w.t, i, len(w.nodes), w.shards, w.disks[i])
	w.safe[i] = safeOf(w.nodes[i])
}

// settle lets what a machine sends be on its way, and asks all that must hold of it.
func (w *world) settle(i int, l []Out) {
	w.t.Helper()
	x := w.nodes[i]
	if x.Dead() {
		if len(l) > 0 {
			w.t.Fatalf("the machine %d is dead, and sends:%s", i, show(w.t, l))
		}
		return
	}
	for _, out := range l {
		w.post(i, out)
	}
	w.agree(i)
	w.safe[i] = safeOf(x)
}

// post lets something be on its way.
func (w *world) post(i int, out Out) {
	w.t.Helper()
	l := unpack(w.t, out.Data)
	switch {
	case l.Kind == client.Told:
		if out.To != -1 {
			w.t.Fatalf("it is told to %d: %+v", out.To, l)
		}
		w.told = append(w.told, told{i, l.N, l.Reply})
	case out.To < 0 || out.To >= len(w.nodes) || out.To == i:
		w.t.Fatalf("the machine %d sends:%s", i, show(w.t, []Out{out}))
	case w.away[i] == 0 && w.away[out.To] == 0:
		w.flight = append(w.flight, letter{i, out.To, out.Data})
	}
}

// agree asks that each group is what any other machine had behind the same commands, byte by byte.
func (w *world) agree(i int) {
	w.t.Helper()
	x := w.nodes[i]
	for g := range w.shards + 1 {
		image := x.Chart().Image()
		if g > 0 {
			image = x.Shard(g).Image()
		}
		at, sum := place{g, x.Applied(g)}, sha256.Sum256(image)
		if other, is := w.agreed[at]; is && other != sum {
			w.t.Fatalf("the machine %d: the group %d is another one behind %d", i, g, at.at)
		}
		w.agreed[at] = sum
	}
}

func (w *world) tick(i int) {
	w.t.Helper()
	w.settle(i, w.nodes[i].Tick())
}

func (w *world) call(i int, n int64, o api.Op) {
	w.t.Helper()
	w.settle(i, w.nodes[i].Handle(-1, callOf(w.t, n, o)))
}

// deliver lets the letter of a number arrive; if it is doubled, it stays on its way.
func (w *world) deliver(k int, doubled bool) {
	w.t.Helper()
	l := w.flight[k]
	if !doubled {
		w.flight = append(w.flight[:k:k], w.flight[k+1:]...)
	}
	if w.away[l.to] == 0 {
		w.settle(l.to, w.nodes[l.to].Handle(l.from, l.data))
	}
}

// arrive lets all arrive that is on its way.
func (w *world) arrive() {
	w.t.Helper()
	for range 3000 {
		if len(w.flight) == 0 {
			return
		}
		w.deliver(0, false)
	}
}

// rounds lets all machines tick, and all arrive, so many times.
func (w *world) rounds(n int) {
	w.t.Helper()
	for range n {
		for i := range w.nodes {
			w.tick(i)
		}
		w.arrive()
	}
}

// leader is who leads a group, of those that are not cut off.
func (w *world) leader(g int) int {
	w.t.Helper()
	for i, x := range w.nodes {
		if x.Info(g).Role == api.Leader && w.away[i] == 0 && !x.Dead() {
			return i
		}
	}
	w.t.Fatalf("nobody leads the group %d", g)
	return -1
}

// owner is the group that has a name's slot, as a machine has it.
func (w *world) owner(i int, name string) int {
	w.t.Helper()
	for g := 1; g <= w.shards; g++ {
		if w.nodes[i].Shard(g).Owns(name) {
			return g
		}
	}
	w.t.Fatalf("nobody owns %s", name)
	return 0
}

// wantToldOf asks that just this was told since it was asked last.
func (w *world) wantToldOf(want ...told) {
	w.t.Helper()
	got := w.told
	w.told = nil
	if len(got) != len(want) {
		w.t.Fatalf("told: %+v; want %+v", got, want)
	}
	for k := range want {
		if got[k].machine != want[k].machine || got[k].n != want[k].n || !sameReply(got[k].reply, want[k].reply) {
			w.t.Fatalf("told: %+v; want %+v", got, want)
		}
	}
}

// ask asks the leader of an account's group, of the chart's for all else, until it is told something that is not ErrRetry.
func (w *world) ask(o api.Op) api.Reply {
	w.t.Helper()
	for range 60 {
		g := 0
		if o.Kind < api.Audit {
			g = w.owner(w.leader(0), o.From)
		}
		w.call(w.leader(g), 99, o)
		w.rounds(2)
		l := w.told
		w.told = nil
		for _, x := range l {
			if x.n == 99 && x.reply.Why != api.ErrRetry {
				return x.reply
			}
		}
	}
	w.t.Fatalf("%+v is not answered", o)
	return api.Reply{}
}

func (w *world) wantAnswer(o api.Op, want api.Reply) {
	w.t.Helper()
	if got := w.ask(o); !sameReply(got, want) {
		w.t.Fatalf("%+v: %+v; want %+v", o, got, want)
	}
}

// crash lets a machine's power go, and come again; it asks that it has all that it had told.
func (w *world) crash(i int, kept []int) {
	w.t.Helper()
	dead, now := w.nodes[i].Dead(), safeOf(w.nodes[i])
	was := w.safe[i]
	w.disks[i].Crash(kept)
	w.start(i)
	for g, s := range w.safe[i] {
		if !dead && !sameSafe(s, was[g]) {
			w.t.Fatalf("the machine %d, the group %d: it starts with %+v; it had %+v", i, g, s, was[g])
		}
		w.wantNotForgotten(s, was[g], now[g])
	}
	w.agree(i)
}

// wantNotForgotten asks that of what was told nothing is forgotten, but where a message that came last has changed it; what that made is there as far as it came.
func (w *world) wantNotForgotten(s, was, now safe) {
	w.t.Helper()
	right := s.term == was.term && s.voted == was.voted || s.term == now.term && s.voted == now.voted
	for k := range was.log {
		at := was.base + 1 + int64(k)
		mine, told, later := s.termAt(at), was.termAt(at), now.termAt(at)
		right = right && (mine == told || mine == later || later != told && mine == 0)
	}
	right = right && (s.base == was.base && s.image == was.image || s.base == now.base && s.image == now.image)
	if !right {
		w.t.Fatalf("it starts with %s; it had told %s, and was about to tell %s", fmt.Sprint(s), fmt.Sprint(was), fmt.Sprint(now))
	}
}

// termAt is the term of an entry; 0, if there is none, -1, if it is gone into the image.
func (s safe) termAt(at int64) int64 {
	switch {
	case at <= s.base:
		return -1
	case at > s.base+int64(len(s.log)):
		return 0
	}
	return s.log[at-s.base-1].Term
}
