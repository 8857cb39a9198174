package node

import (
	"bytes"
	"math"
	"testing"

	"almoner/api"
	"almoner/chart"
	"almoner/client"
	"almoner/codec"
	"almoner/crc"
	"almoner/disk"
	"almoner/raft"
	"almoner/shard"
	"almoner/store"
)

// P19.1, P19.3: the chapter's example.
func TestExample(t *testing.T) {
	x := newNode(t, 0, 1, 2, newDisk(t, 512))
	for range 20 {
		wantOuts(t, x.Tick())
	}
	l := x.Handle(-1, callOf(t, 3, open("ann", "o")))
	for range 20 {
		l = append(l, x.Tick()...)
	}
	wantTold(t, l, 3, api.Reply{})
}

// P19.1: what New refuses, and which error it names first.
func TestNewRefuses(t *testing.T) {
	small := newDisk(t, 63)
	fails := newDisk(t, 64)
	fails.Fail()
	fails.Sync()
	for _, c := range []struct {
		me, n, shards int
		d             *disk.Disk
		want          api.Errno
	}{
		{0, 1, 1, nil, api.ErrNil},
		{-1, 0, 0, nil, api.ErrNil},
		{0, 0, 1, small, api.ErrArg},
		{0, -1, 1, small, api.ErrArg},
		{0, api.MaxNodes + 1, 1, newDisk(t, 64), api.ErrArg},
		{0, math.MaxInt, 1, newDisk(t, 64), api.ErrArg},
		{0, math.MinInt, 1, newDisk(t, 64), api.ErrArg},
		{-1, 1, 1, newDisk(t, 64), api.ErrArg},
		{1, 1, 1, newDisk(t, 64), api.ErrArg},
		{5, 5, 1, newDisk(t, 64), api.ErrArg},
		{math.MinInt, 5, 1, newDisk(t, 64), api.ErrArg},
		{math.MaxInt, 5, 1, newDisk(t, 64), api.ErrArg},
		{0, 1, 0, newDisk(t, 64), api.ErrArg},
		{0, 1, -1, newDisk(t, 64), api.ErrArg},
		{0, 1, api.MaxShards + 1, newDisk(t, 64), api.ErrArg},
		{0, 1, math.MaxInt, newDisk(t, 64), api.ErrArg},
		{0, 1, 1, small, api.ErrArg}, // of store.Open
	} {
		if x, why := New(c.me, c.n, c.shards, c.d); x != nil || why != c.want {
			t.Errorf("New(%d, %d, %d): %v, %d; want nil, %d", c.me, c.n, c.shards, x, why, c.want)
		}
	}
}

// P19.1: an error of store.Open is New's.
func TestNewOfAStoreThatDoesNotOpen(t *testing.T) {
	d := newDisk(t, 64)
	s, _ := store.Open(d)
	s.Write([]api.Pair{{Key: "k"}})
	s.Checkpoint()
	// The page of the tree's root is spoilt, so that the store can not be opened.
	for k := range 30 {
		b, _ := d.Read(2 + k)
		b[100]++
		d.Write(2+k, b)
	}
	d.Sync()
	_, want := store.Open(d.Copy())
	if want == api.OK {
		t.Fatal("the store can be opened")
	}
	if x, why := New(0, 1, 1, d); x != nil || why != want {
		t.Errorf("New: %v, %d; want nil, %d", x, why, want)
	}
}

// P19.1: of all that can be a machine is made, each replica a Follower with nothing kept.
func TestNewOfAnEmptyDisk(t *testing.T) {
	for n := 1; n <= api.MaxNodes; n++ {
		for me := range n {
			for shards := 1; shards <= api.MaxShards; shards++ {
				wantNew(t, newNode(t, me, n, shards, newDisk(t, 64)), shards)
			}
		}
	}
}

// wantNew asks that a machine knows nothing yet.
func wantNew(t *testing.T, x *Node, shards int) {
	t.Helper()
	for g := range shards + 1 {
		if got, want := x.Info(g), (raft.Info{Voted: -1, Leader: -1}); got != want || x.Applied(g) != 0 {
			t.Fatalf("Info(%d): %+v, Applied %d; want %+v, 0", g, got, x.Applied(g), want)
		}
	}
	if x.Dead() || x.Chart() == nil || x.Chart().Shards() != shards {
		t.Fatalf("Dead %v, Chart %v", x.Dead(), x.Chart())
	}
	for g := 1; g <= shards; g++ {
		want, _ := shard.New(g, shards)
		if got := x.Shard(g); got == nil || !bytes.Equal(got.Image(), want.Image()) {
			t.Fatalf("Shard(%d): %v", g, got)
		}
	}
}

// P19.1, P1: of nil, and of a group that there is not.
func TestNoneThere(t *testing.T) {
	var none *Node
	wantOuts(t, none.Handle(-1, callOf(t, 1, balance("ann"))))
	wantOuts(t, none.Handle(-1, nil))
	wantOuts(t, none.Tick())
	none.Draw(3)
	if none.Dead() || none.Chart() != nil {
		t.Errorf("nil: Dead %v, Chart %v", none.Dead(), none.Chart())
	}
	for _, x := range []*Node{none, newAlone(t, 2, newDisk(t, 64))} {
		for _, g := range []int{math.MinInt, -2, -1, 3, 4, math.MaxInt} {
			if x.Info(g) != (raft.Info{}) || x.Shard(g) != nil || x.Applied(g) != 0 {
				t.Errorf("the group %d: %+v, %v, %d", g, x.Info(g), x.Shard(g), x.Applied(g))
			}
		}
		if x.Shard(0) != nil {
			t.Error("the chart's group has a shard")
		}
	}
	if none.Info(0) != (raft.Info{}) || none.Shard(1) != nil || none.Applied(0) != 0 {
		t.Errorf("nil: %+v, %v, %d", none.Info(0), none.Shard(1), none.Applied(0))
	}
}

// P19.1: what Shard and Chart answer are copies.
func TestCopies(t *testing.T) {
	x := newAlone(t, 2, newDisk(t, 128))
	wantAlone(t, x, open("ann", "o"), api.Reply{})
	c, s := x.Chart(), x.Shard(1)
	wasChart, wasShard := string(c.Image()), string(s.Image())
	c.Do(chart.Cmd{Kind: chart.CmdMove, Slot: 0, Shard: 2})
	s.Do(shard.Cmd{Kind: shard.CmdFreeze, Epoch: 5})
	if string(c.Image()) == wasChart || string(s.Image()) == wasShard {
		t.Fatal("nothing was done with the copies")
	}
	if string(x.Chart().Image()) != wasChart || string(x.Shard(1).Image()) != wasShard {
		t.Error("what is done with a copy is seen in the machine")
	}
}

// P19.1: Draw hands the number to each replica, as the next timeout.
func TestDraw(t *testing.T) {
	for _, c := range []struct{ n, ticks int }{{0, 10}, {7, 17}, {9, 19}, {10, 10}, {-1, 19}, {math.MaxInt, 17}, {math.MinInt, 12}} {
		x := newNode(t, 0, 1, 3, newDisk(t, 64))
		x.Draw(c.n) // taken when the election begins, at 10
		for range 10 {
			x.Tick()
		}
		y := newNode(t, 0, 2, 3, newDisk(t, 64))
		y.Draw(c.n)
		for range 10 {
			y.Tick()
		}
		for count := 1; count <= c.ticks; count++ {
			y.Tick()
			for g := range 4 {
				want := int64(1)
				if count == c.ticks {
					want = 2
				}
				if got := y.Info(g).Term; got != want {
					t.Fatalf("Draw(%d): the term of the group %d behind %d ticks more: %d; want %d", c.n, g, count, got, want)
				}
			}
		}
		if x.Info(3).Role != api.Leader {
			t.Fatalf("%+v", x.Info(3))
		}
	}
}

// P19.1, P1: bytes that are no letter, or none that comes to a machine, do nothing, whoever they come from.
func TestNoLetters(t *testing.T) {
	body := []byte("no body at all")
	vote, _ := codec.Msg(api.Msg{Kind: api.Vote, Group: 3, From: 1, To: 0, Term: 9})
	for _, b := range [][]byte{
		nil, {}, {0}, {1}, {255, 255, 255}, bytes.Repeat([]byte{128}, 100), make([]byte, 17*api.MaxBytes),
		pack(t, client.Letter{Kind: client.Told, N: 3}),
		pack(t, client.Letter{Kind: client.Raft}),
		pack(t, client.Letter{Kind: client.Raft, Body: body}),
		pack(t, client.Letter{Kind: client.Raft, Body: vote}), // of a group that there is not
		pack(t, client.Letter{Kind: client.Ask, N: 1}),
		pack(t, client.Letter{Kind: client.Ask, N: 1, Body: body}),
		pack(t, client.Letter{Kind: client.Answer, N: 1}),
		pack(t, client.Letter{Kind: client.Answer, N: 1, Group: 1, Body: body}),
		append(callOf(t, 1, balance("ann")), 0),
		callOf(t, 1, balance("ann"))[1:],
	} {
		x := newAlone(t, 2, newDisk(t, 64))
		before := safeOf(x)
		for _, from := range []int{-1, 0, 1, 4, 5, math.MinInt, math.MaxInt} {
			wantOuts(t, x.Handle(from, b))
		}
		for g, s := range safeOf(x) {
			if !sameSafe(s, before[g]) {
				t.Errorf("%.40x: the group %d has %+v; want %+v", b, g, s, before[g])
			}
		}
	}
}

// P19.1: a Call is answered to whom it comes from.
func TestAnsweredToWhomItComesFrom(t *testing.T) {
	x := newAlone(t, 1, newDisk(t, 64))
	for _, from := range []int{-1, 1, 4, 77, -9, math.MaxInt, math.MinInt} {
		wantOuts(t, x.Handle(from, callOf(t, 5, balance("ann"))), toldOutOf(t, from, 5, api.Reply{Why: api.ErrNone}))
		wantOuts(t, x.Handle(from, callOf(t, -5, api.Op{})), toldOutOf(t, from, -5, api.Reply{Why: api.ErrArg}))
	}
}

// P19.1, P1, rules 4 and 5: the bytes that come are not changed, and not kept; what is sent shares nothing with another answer.
func TestNothingShared(t *testing.T) {
	d := newDisk(t, 128)
	x := newAlone(t, 1, d)
	b := callOf(t, 5, open("ann", "o"))
	c := bytes.Clone(b)
	first := x.Handle(-1, b)
	if !bytes.Equal(b, c) {
		t.Error("the bytes that come are changed")
	}
	clear(b)
	for _, out := range first {
		clear(out.Data)
	}
	wantTold(t, x.Handle(-1, callOf(t, 6, open("ann", "o"))), 6, api.Reply{})
	wantTold(t, x.Handle(-1, callOf(t, 7, balance("ann"))), 7, api.Reply{})
	d.Crash(nil)
	x = newAlone(t, 1, d)
	wantTold(t, x.Handle(-1, callOf(t, 7, balance("ann"))), 7, api.Reply{})
}

// P19.1: each replica starts with what was kept, commit and done up to its base.
func TestStartsWithWhatWasKept(t *testing.T) {
	d := newDisk(t, 256)
	x := newAlone(t, 2, d)
	wantAlone(t, x, open("ann", "o"), api.Reply{})
	for i := range int64(60) {
		wantAlone(t, x, deposit("ann", 1+i, "d"+string(rune('a'+i%26))+string(rune('a'+i/26))), api.Reply{})
	}
	kept := safeOf(x)
	g := 1
	if crc.Slot("ann")%2 == 1 {
		g = 2
	}
	if kept[g].base == 0 {
		t.Fatal("the log was never compacted")
	}
	d.Crash(nil)
	y := newNode(t, 0, 1, 2, d)
	for number, s := range safeOf(y) {
		want := raft.Info{Term: kept[number].term, Voted: kept[number].voted, Leader: -1, Commit: kept[number].base}
		if !sameSafe(s, kept[number]) || y.Info(number) != want || y.Applied(number) != kept[number].base {
			t.Errorf("the group %d: %+v, done up to %d; want %+v", number, y.Info(number), y.Applied(number), want)
		}
	}
	for range 20 {
		y.Tick()
	}
	wantAlone(t, y, balance("ann"), api.Reply{Amount: 60 * 61 / 2})
	if y.Applied(g) != x.Applied(g)+2 {
		t.Errorf("done up to %d; want %d", y.Applied(g), x.Applied(g)+2)
	}
}

// P19.2, P5: a machine whose sync failed, or whose disk is full, is dead: it answers nothing, until it starts again.
func TestDead(t *testing.T) {
	for _, spoil := range []func(d *disk.Disk){func(d *disk.Disk) { d.Fail() }, func(d *disk.Disk) { d.Full(true) }} {
		d := newDisk(t, 128)
		x := newAlone(t, 1, d)
		wantAlone(t, x, open("ann", "o"), api.Reply{})
		spoil(d)
		wantAlone(t, x, api.Op{Kind: 9}, api.Reply{Why: api.ErrArg}) // nothing is to be made safe
		if x.Dead() {
			t.Fatal("it is dead ahead of all")
		}
		wantOuts(t, x.Handle(-1, callOf(t, 2, deposit("ann", 5, "d"))))
		if !x.Dead() {
			t.Fatal("it is not dead")
		}
		info := x.Info(1)
		for range 30 {
			wantOuts(t, x.Tick())
			x.Draw(1)
			wantOuts(t, x.Handle(-1, callOf(t, 3, balance("ann"))))
			wantOuts(t, x.Handle(-1, callOf(t, 4, api.Op{})))
		}
		d.Full(false)
		wantOuts(t, x.Handle(-1, callOf(t, 3, balance("ann"))))
		if !x.Dead() || x.Info(1) != info {
			t.Fatalf("Dead %v, %+v; want true, %+v", x.Dead(), x.Info(1), info)
		}
		d.Crash(nil)
		x = newAlone(t, 1, d)
		wantAlone(t, x, balance("ann"), api.Reply{})
		wantAlone(t, x, deposit("ann", 5, "d"), api.Reply{})
	}
}

// P19.2: a machine that can not make its vote safe tells nobody of it.
func TestDeadTellsNoVote(t *testing.T) {
	d := newDisk(t, 64)
	x := newNode(t, 0, 3, 1, d)
	d.Fail()
	wantOuts(t, x.Handle(1, raftOf(t, api.Msg{Kind: api.Vote, Group: 1, From: 1, To: 0, Term: 1})))
	if !x.Dead() {
		t.Fatal("it is not dead")
	}
	d.Crash(nil)
	x = newNode(t, 0, 3, 1, d)
	if info := x.Info(1); info.Term != 0 || info.Voted != -1 {
		t.Fatalf("%+v", info)
	}
	l := x.Handle(2, raftOf(t, api.Msg{Kind: api.Vote, Group: 1, From: 2, To: 0, Term: 1}))
	wantOuts(t, l, Out{To: 2, Data: raftOf(t, api.Msg{Kind: api.VoteTold, Group: 1, From: 0, To: 2, Term: 1, Ok: true})})
}

// P1: a machine that nobody made has no groups.
func TestNobodyMade(t *testing.T) {
	x := &Node{}
	wantOuts(t, x.Tick())
	wantTold(t, x.Handle(-1, callOf(t, 1, balance("ann"))), 1, api.Reply{Why: api.ErrRetry})
	for _, n := range []int64{-1, 0, 1} {
		wantOuts(t, x.Handle(0, askOf(t, n, int(n+1), shard.Cmd{Kind: shard.CmdThaw})))
		wantOuts(t, x.Handle(0, answerOf(t, n, int(n+1), shard.Cmd{Kind: shard.CmdThaw}, shard.Result{})))
	}
	wantOuts(t, x.Handle(1, raftOf(t, api.Msg{Kind: api.Vote, From: 1, Term: 1})))
	x.Draw(1)
	if x.Dead() || x.Chart() != nil || x.Shard(1) != nil || x.Info(0) != (raft.Info{}) || x.Applied(0) != 0 {
		t.Error("something is there")
	}
}
