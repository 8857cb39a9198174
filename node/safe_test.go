package node

import (
	"bytes"
	"fmt"
	"strings"
	"testing"

	"almoner/api"
	"almoner/disk"
	"almoner/raft"
	"almoner/shard"
)

// step is one that goes wrong in one of many ways.
func (w *world) step() {
	w.t.Helper()
	i := w.r.Intn(len(w.nodes))
	switch k := w.r.Intn(100); {
	case k < 15:
		w.tick(i)
	case k < 17:
		w.nodes[i].Draw(w.r.Int() - w.r.Int())
	case k < 30:
		o := anyOp(w.r, w.shards)
		if k < 28 {
			i = w.anyLeader(i)
		}
		w.call(i, 1, o)
	case k < 31:
		w.disks[i].Fail()
	case k == 31:
		w.disks[i].Full(w.r.Intn(3) == 0)
	case k < 34:
		w.crash(i, anyKept(w))
	case k < 35:
		clear(w.away)
		if w.r.Intn(2) == 0 {
			w.away[i] = 1
		}
	case k < 37:
		w.rounds(1)
	case len(w.flight) == 0:
	case k < 40:
		k := w.r.Intn(len(w.flight))
		w.flight = append(w.flight[:k:k], w.flight[k+1:]...)
	case k < 44:
		w.deliver(w.r.Intn(len(w.flight)), true)
	case k < 80:
		w.deliver(0, false)
	default:
		w.deliver(w.r.Intn(len(w.flight)), false)
	}
}

// anyLeader is a machine that leads some group, if there is one.
func (w *world) anyLeader(i int) int {
	for k := range w.nodes {
		for g := range w.shards + 1 {
			if x := w.nodes[(i+k)%len(w.nodes)]; x.Info((g+i)%(w.shards+1)).Role == api.Leader && !x.Dead() {
				return (i + k) % len(w.nodes)
			}
		}
	}
	return i
}

// anyKept is how much is kept of what was not safe.
func anyKept(w *world) []int {
	l := make([]int, w.r.Intn(40))
	for i := range l {
		l[i] = []int{0, 256, 300, -1, w.r.Intn(256)}[w.r.Intn(5)]
	}
	return l
}

// P19.4, P19.5, P19.2, P3, P8: whatever is lost, doubled and late, and whatever disks fail and tear, a machine that starts again has all that it told, and two that have done the same commands are the same; when it is quiet, all have done the same.
func TestSafe(t *testing.T) {
	installed, deaths := 0, 0
	for seed := range int64(120) {
		n, shards := 1+int(seed)%5, 1+int(seed)%3
		w := newWorld(t, seed, n, shards, []int{64, 100, 256}[seed%3])
		w.rounds(12)
		for range 700 {
			w.step()
		}
		for i, x := range w.nodes {
			if x.Dead() {
				deaths++
			}
			w.crash(i, nil)
		}
		clear(w.away)
		w.rounds(60)
		for g := range shards + 1 {
			at := w.nodes[w.leader(g)].Applied(g)
			for i, x := range w.nodes {
				if x.Applied(g) != at {
					t.Fatalf("seed %d: the machine %d has done %d of the group %d; want %d", seed, i, x.Applied(g), g, at)
				}
				base, _ := x.groups[g].Log().Base()
				installed += int(min(base, 1))
			}
		}
	}
	if installed < 100 || deaths < 50 {
		t.Errorf("%d groups have a base, %d machines died: too few to tell anything", installed, deaths)
	}
}

// P19.4: a vote, and the term in which it was given, are safe when they are told.
func TestVoteIsSafe(t *testing.T) {
	d := newDisk(t, 64)
	x := newNode(t, 1, 3, 2, d)
	for g := range 3 {
		term := int64(5 + g)
		l := x.Handle(2, raftOf(t, api.Msg{Kind: api.Vote, Group: g, From: 2, To: 1, Term: term}))
		wantOuts(t, l, Out{To: 2, Data: raftOf(t, api.Msg{Kind: api.VoteTold, Group: g, From: 1, To: 2, Term: term, Ok: true})})
		d.Crash(nil)
		x = newNode(t, 1, 3, 2, d)
		if got, want := x.Info(g), (raft.Info{Term: term, Voted: 2, Leader: -1}); got != want {
			t.Fatalf("%+v; want %+v", got, want)
		}
		l = x.Handle(0, raftOf(t, api.Msg{Kind: api.Vote, Group: g, From: 0, To: 1, Term: term}))
		wantOuts(t, l, Out{To: 0, Data: raftOf(t, api.Msg{Kind: api.VoteTold, Group: g, From: 1, To: 0, Term: term})})
	}
}

// P19.4: entries, and a snapshot, are safe when they are told; so is what takes their places.
func TestEntriesAreSafe(t *testing.T) {
	d := newDisk(t, 256)
	x := newNode(t, 1, 3, 1, d)
	add := func(term, index, of int64, cmds ...string) {
		t.Helper()
		m := api.Msg{Kind: api.Add, Group: 1, From: 0, To: 1, Term: term, Index: index, LogTerm: of}
		for _, cmd := range cmds {
			m.Entries = append(m.Entries, api.Entry{Term: term, Cmd: []byte(cmd)})
		}
		want := api.Msg{Kind: api.AddTold, Group: 1, From: 1, To: 0, Term: term, Index: index + int64(len(cmds)), Ok: true}
		wantOuts(t, x.Handle(0, raftOf(t, m)), Out{To: 0, Data: raftOf(t, want)})
		d.Crash(nil)
		x = newNode(t, 1, 3, 1, d)
	}
	wantLog := func(want ...string) {
		t.Helper()
		var got []string
		for at, e := range x.groups[1].Log().Each() {
			got = append(got, fmt.Sprintf("%d:%d:%.3s", at, e.Term, e.Cmd))
		}
		if fmt.Sprint(got) != fmt.Sprint(want) {
			t.Fatalf("the log is %v; want %v", got, want)
		}
	}
	long := strings.Repeat("x", raft.MostCmd)
	add(1, 0, 0, "", "a", "b", "c")
	wantLog("1:1:", "2:1:a", "3:1:b", "4:1:c")
	add(2, 2, 1, "d")
	wantLog("1:1:", "2:1:a", "3:2:d")
	add(3, 1, 1, "e"+long[1:], "f"+long[1:], "g"+long[1:])
	wantLog("1:1:", "2:3:exx", "3:3:fxx", "4:3:gxx")
	add(3, 4, 3)
	wantLog("1:1:", "2:3:exx", "3:3:fxx", "4:3:gxx")

	image := x.Shard(1).Image()
	snap := api.Msg{Kind: api.Snap, Group: 1, From: 0, To: 1, Term: 4, Index: 3, LogTerm: 3, Ok: true, Data: image}
	want := api.Msg{Kind: api.AddTold, Group: 1, From: 1, To: 0, Term: 4, Index: 3, Ok: true}
	wantOuts(t, x.Handle(0, raftOf(t, snap)), Out{To: 0, Data: raftOf(t, want)})
	d.Crash(nil)
	x = newNode(t, 1, 3, 1, d)
	wantLog("4:3:gxx")
	if x.Applied(1) != 3 || x.Info(1).Commit != 3 || !bytes.Equal(x.groups[1].image, image) {
		t.Fatalf("done up to %d, %+v", x.Applied(1), x.Info(1))
	}
}

// P19.4: a command that a leader would not have taken could not be made safe: the message does nothing.
func TestTooGreatACommand(t *testing.T) {
	x := newNode(t, 1, 3, 1, newDisk(t, 256))
	m := api.Msg{Kind: api.Add, Group: 1, From: 0, To: 1, Term: 1, Entries: []api.Entry{{Term: 1, Cmd: make([]byte, raft.MostCmd+1)}}}
	wantOuts(t, x.Handle(0, raftOf(t, m)))
	if x.Dead() || x.Info(1).Term != 0 {
		t.Errorf("Dead %v, %+v", x.Dead(), x.Info(1))
	}
}

// P19.2, P19.5: a snapshot that can not be loaded makes a machine dead, and nothing of it is safe.
func TestSnapshotThatCanNotBe(t *testing.T) {
	other := newNode(t, 0, 1, 2, newDisk(t, 64))
	for _, data := range [][]byte{nil, {0}, other.Shard(1).Image(), other.Shard(2).Image(), other.Chart().Image()} {
		for g := range 2 {
			d := newDisk(t, 256)
			x := newNode(t, 1, 3, 1, d)
			snap := api.Msg{Kind: api.Snap, Group: g, From: 0, To: 1, Term: 4, Index: 3, LogTerm: 3, Ok: true, Data: data}
			wantOuts(t, x.Handle(0, raftOf(t, snap)))
			if !x.Dead() {
				t.Fatalf("the group %d: it is not dead behind %x", g, data)
			}
			d.Crash(nil)
			wantNew(t, newNode(t, 1, 3, 1, d), 1)
		}
	}
}

// change is what a machine does, between two states of which the first one is safe.
type change struct {
	name string
	do   func(x *Node)
}

// P19.4, P3: where the power goes between the batches of a change, what stands there is as it was, as it is to be, or, ahead of the entries that give way, short of these.
func TestPowerWithinAChange(t *testing.T) {
	long := strings.Repeat("x", raft.MostCmd-3)
	entries := func(term int64, n int) []api.Entry {
		var l []api.Entry
		for i := range n {
			l = append(l, api.Entry{Term: term, Cmd: []byte(fmt.Sprint(i, "_", long))})
		}
		return l
	}
	add := func(term, index, of int64, n int) func(x *Node) {
		return func(x *Node) {
			x.groups[1].Step(api.Msg{Kind: api.Add, Group: 1, From: 0, To: 1, Term: term, Index: index, LogTerm: of, Entries: entries(term, n)})
		}
	}
	snap := func(term, index, of int64) func(x *Node) {
		image := greatImage(t, index)
		return func(x *Node) {
			x.groups[1].Step(api.Msg{Kind: api.Snap, Group: 1, From: 0, To: 1, Term: term, Index: index, LogTerm: of, Ok: true, Data: image})
			x.install(x.groups[1])
		}
	}
	batches := 0
	for _, c := range [][]change{
		{{"entries on an empty disk", add(1, 0, 0, 9)}},
		{{"entries", add(1, 0, 0, 3)}, {"entries in their places", add(2, 1, 1, 7)}},
		{{"entries", add(1, 0, 0, 9)}, {"fewer in their places", add(2, 1, 1, 5)}},
		{{"entries", add(1, 0, 0, 5)}, {"a snapshot of some", snap(1, 3, 1)}},
		{{"entries", add(1, 0, 0, 5)}, {"a snapshot of another log", snap(2, 3, 2)}, {"entries behind it", add(3, 3, 2, 6)}},
		{{"a snapshot", snap(1, 3, 1)}, {"another one", snap(2, 9, 2)}, {"a third one", snap(3, 12, 2)}},
	} {
		d := newDisk(t, 1024)
		for _, step := range c {
			batches += cutChange(t, d, step)
			x := newNode(t, 1, 3, 1, d)
			step.do(x)
			x.groups[1].touched = true
			if why := x.save(); why != api.OK {
				t.Fatalf("%s: %d", step.name, why)
			}
		}
	}
	if batches < 20 {
		t.Errorf("%d batches: too few to tell anything", batches)
	}
}

// greatImage is the image of a shard that has much, another one for each number.
func greatImage(t *testing.T, k int64) []byte {
	t.Helper()
	s, why := shard.New(1, 1)
	if why != api.OK {
		t.Fatalf("shard.New: %d", why)
	}
	for i := range 150 + k {
		s.Do(shard.Cmd{Kind: shard.CmdOp, Op: open(fmt.Sprintf("an_account_%d_%d", k, i), "a_key_of_many_bytes")})
	}
	if b := s.Image(); len(b) > 2*mostBatch {
		return b
	}
	t.Fatal("the image is small")
	return nil
}

// cutChange does a change on copies of a disk, of which more and more batches are written; it answers how many there are.
func cutChange(t *testing.T, d *disk.Disk, step change) int {
	t.Helper()
	for k := 0; ; k++ {
		own := d.Copy()
		x := newNode(t, 1, 3, 1, own)
		was := safeOf(x)[1]
		step.do(x)
		g, now := x.groups[1], safeOf(x)[1]
		record, batches := g.record(), 0
		w := &writer{write: func(l []api.Pair) api.Errno {
			if batches == k {
				return api.ErrDead
			}
			batches++
			return x.keeper.store.Write(l)
		}}
		w.remove(x.keeper.trash...)
		w.change(g, record, sameUpTo(g.safe.log, record.log))
		w.flush()
		own.Crash(nil)
		y := newNode(t, 1, 3, 1, own)
		got := safeOf(y)[1]
		if w.why == api.OK {
			if !sameSafe(got, now) {
				t.Fatalf("%s: it starts with %s; want %s", step.name, fmt.Sprint(got), fmt.Sprint(now))
			}
			return batches
		}
		if !sameSafe(got, was) && !sameSafe(got, now) {
			wantShort(t, step.name, got, was, now)
		}
		wantGoesOn(t, own, y, step, now)
	}
}

// wantShort asks that a state has a new one's term, vote and base, and of its log the entries that are not new.
func wantShort(t *testing.T, name string, got, was, now safe) {
	t.Helper()
	right := got.term == now.term && got.voted == now.voted && (len(got.log) == 0 || got.base == now.base && got.image == now.image)
	for k, e := range got.log {
		at := got.base + 1 + int64(k)
		right = right && e.Term == was.termAt(at) && e.Term == now.termAt(at)
	}
	if !right {
		t.Fatalf("%s: it starts with %s; it had %s, and was about to have %s", name, fmt.Sprint(got), fmt.Sprint(was), fmt.Sprint(now))
	}
}

// wantGoesOn asks that a machine that starts on what a change has left does the change, and is then as it is to be.
func wantGoesOn(t *testing.T, d *disk.Disk, x *Node, step change, want safe) {
	t.Helper()
	step.do(x)
	x.groups[1].touched = true
	if why := x.save(); why != api.OK {
		t.Fatalf("%s: %d", step.name, why)
	}
	d.Crash(nil)
	y := newNode(t, 1, 3, 1, d)
	if got := safeOf(y)[1]; !sameSafe(got, want) || len(y.keeper.trash) > 0 {
		t.Fatalf("%s: it is %s; want %s; %q count for nothing", step.name, fmt.Sprint(got), fmt.Sprint(want), y.keeper.trash)
	}
}
