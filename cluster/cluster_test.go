package cluster

import (
	"bytes"
	"math"
	"strings"
	"testing"

	"almoner/api"
	"almoner/client"
	"almoner/net"
)

func newCluster(t *testing.T, n, shards, sectors int) *Cluster {
	t.Helper()
	c, why := New(n, shards, sectors)
	if why != api.OK || c == nil {
		t.Fatalf("New(%d, %d, %d): %d", n, shards, sectors, why)
	}
	return c
}

// rounds lets so many rounds go by, and answers what is told in them.
func rounds(c *Cluster, n int) []api.Told {
	var l []api.Told
	for range n {
		l = append(l, c.Do(api.Event{Kind: api.EvRound})...)
	}
	return l
}

// leaderOf is a machine that leads the shard that has an account.
func leaderOf(t *testing.T, c *Cluster, name string) int {
	t.Helper()
	for g := 1; g <= api.MaxShards; g++ {
		if x := c.Node(c.Leader(g)); x.Shard(g).Owns(name) {
			return c.Leader(g)
		}
	}
	t.Fatalf("nobody leads the shard of %s", name)
	return -1
}

func wantTold(t *testing.T, got []api.Told, want ...api.Told) {
	t.Helper()
	same := len(got) == len(want)
	for k := 0; same && k < len(want); k++ {
		same = got[k].Call == want[k].Call && sameReply(got[k].Reply, want[k].Reply)
	}
	if !same {
		t.Fatalf("told: %+v; want %+v", got, want)
	}
}

// P20.1, P20.2, P20.5: the chapter's example.
func TestExample(t *testing.T) {
	c := newCluster(t, 3, 2, 512)
	wantTold(t, rounds(c, 30))
	for g := range 3 {
		if l := c.Leader(g); l < 0 || l > 2 {
			t.Fatalf("Leader(%d): %d", g, l)
		}
	}
	wantTold(t, c.Do(api.Event{Kind: api.EvCall, Node: leaderOf(t, c, "ann"), Op: api.Op{Kind: api.Open, From: "ann", Key: "o"}}))
	wantTold(t, rounds(c, 2), api.Told{Call: 0})
}

// P20.1: what New and Load refuse.
func TestRefused(t *testing.T) {
	for _, x := range [][3]int{
		{0, 1, 64}, {-1, 1, 64}, {6, 1, 64}, {math.MaxInt, 1, 64}, {math.MinInt, 1, 64},
		{1, 0, 64}, {1, -1, 64}, {1, 4, 64}, {1, math.MaxInt, 64},
		{1, 1, 63}, {1, 1, 0}, {1, 1, -64}, {1, 1, api.MaxSectors + 1}, {1, 1, math.MaxInt}, {1, 1, math.MinInt},
	} {
		if c, why := New(x[0], x[1], x[2]); c != nil || why != api.ErrArg {
			t.Errorf("New(%v): %v, %d", x, c, why)
		}
	}
	right := make([]byte, 64*api.Sector)
	for k, x := range []struct {
		images [][]byte
		shards int
	}{
		{nil, 1},
		{[][]byte{}, 1},
		{[][]byte{right, right, right, right, right, right}, 1},
		{[][]byte{right}, 0},
		{[][]byte{right}, -1},
		{[][]byte{right}, 4},
		{[][]byte{right, nil}, 1},
		{[][]byte{right[1:]}, 1},
		{[][]byte{right, append(right, 0)}, 1},
		{[][]byte{right[api.Sector:]}, 1},
		{[][]byte{right, make([]byte, (api.MaxSectors+1)*api.Sector)}, 1},
	} {
		if c, why := Load(x.images, x.shards); c != nil || why != api.ErrArg {
			t.Errorf("Load, the case %d: %v, %d", k, c, why)
		}
	}
}

// P20.1, P20.5: of each number of machines and shards, and of the least and the greatest disks, behind 100 rounds each group has a leader, and nothing is busy.
func TestBehind100Rounds(t *testing.T) {
	for n := 1; n <= api.MaxNodes; n++ {
		for shards := 1; shards <= api.MaxShards; shards++ {
			for _, sectors := range []int{64, 65, 512, api.MaxSectors} {
				c := newCluster(t, n, shards, sectors)
				if c.Nodes() != n || c.Busy() != shards+1 || c.Flight() != 0 || c.Calls() != 0 || len(c.Images()) != n {
					t.Fatalf("%d, %d: Nodes %d, Busy %d, Flight %d, Calls %d, %d images", n, shards, c.Nodes(), c.Busy(), c.Flight(), c.Calls(), len(c.Images()))
				}
				wantAtRest(t, c, n, shards, sectors)
				d, why := Load(c.Images(), shards)
				if why != api.OK || d.Flight() != 0 || d.Calls() != 0 || d.Busy() != shards+1 {
					t.Fatalf("Load: %d", why)
				}
				wantAtRest(t, d, n, shards, sectors)
			}
		}
	}
}

// wantAtRest asks that a cluster is at rest behind 100 rounds.
func wantAtRest(t *testing.T, c *Cluster, n, shards, sectors int) {
	t.Helper()
	wantTold(t, rounds(c, 100))
	if c.Busy() != 0 || c.Flight() != 0 {
		t.Errorf("Busy %d, Flight %d", c.Busy(), c.Flight())
	}
	for g := range shards + 1 {
		if l := c.Leader(g); l < 0 || l >= n {
			t.Errorf("Leader(%d): %d", g, l)
		}
	}
	for i := range n {
		if !c.Up(i) || c.Disk(i).Size() != sectors {
			t.Errorf("the machine %d: Up %v, %d sectors", i, c.Up(i), c.Disk(i).Size())
		}
	}
}

// P20.1, P1: of nil.
func TestNil(t *testing.T) {
	var c *Cluster
	for kind := -1; kind <= 11; kind++ {
		wantTold(t, c.Do(api.Event{Kind: kind}))
	}
	if op, r, is := c.Call(0); op != (api.Op{}) || !sameReply(r, api.Reply{}) || is || c.Calls() != 0 {
		t.Errorf("Call: %+v, %+v, %v; Calls %d", op, r, is, c.Calls())
	}
	for n, o := range c.Open() {
		t.Errorf("Open: %d, %+v", n, o)
	}
	if c.Up(0) || c.Flight() != 0 || c.Leader(0) != -1 || c.Busy() != 0 || len(c.Images()) != 0 || c.Disk(0) != nil || c.Node(0) != nil || c.Nodes() != 0 {
		t.Error("something is there of nil")
	}
}

// P20.2, P1: of machines, groups and calls that there are not.
func TestNoneThere(t *testing.T) {
	c := newCluster(t, 2, 1, 64)
	rounds(c, 20)
	for _, i := range []int{math.MinInt, -1, 2, 3, 5, math.MaxInt} {
		if c.Up(i) || c.Disk(i) != nil || c.Node(i) != nil || c.Leader(i) != -1 {
			t.Errorf("%d: Up %v, Disk %v, Node %v, Leader %d", i, c.Up(i), c.Disk(i), c.Node(i), c.Leader(i))
		}
		if op, r, is := c.Call(i); op != (api.Op{}) || !sameReply(r, api.Reply{}) || is {
			t.Errorf("Call(%d): %+v, %+v, %v", i, op, r, is)
		}
		for kind := -1; kind <= 11; kind++ {
			if kind != api.EvCrash && kind != api.EvRound {
				wantTold(t, c.Do(api.Event{Kind: kind, Node: i, N: i, Op: api.Op{Kind: api.Audit}}))
			}
		}
	}
	if c.Flight() != 0 || c.Calls() != 0 || !c.Up(0) || !c.Up(1) {
		t.Errorf("Flight %d, Calls %d, Up %v %v", c.Flight(), c.Calls(), c.Up(0), c.Up(1))
	}
}

// P20.2 (EvCall): a call that can not be packed begins, and nothing goes; behind the last one that there can be nothing happens.
func TestCallsThatDoNotGo(t *testing.T) {
	c := newCluster(t, 1, 1, 64)
	long := strings.Repeat("x", api.MaxBytes+1)
	for k, o := range []api.Op{{Kind: api.Audit, From: long}, {Kind: api.Audit, To: long}, {Kind: api.Audit, Key: long}} {
		wantTold(t, c.Do(api.Event{Kind: api.EvCall, Op: o}))
		if got, _, is := c.Call(k); c.Calls() != k+1 || c.Flight() != 0 || got != o || is {
			t.Errorf("Calls %d, Flight %d, Call %.40v, %v", c.Calls(), c.Flight(), got, is)
		}
	}
	c.Do(api.Event{Kind: api.EvCall, Op: api.Op{Kind: api.Audit, From: long[1:]}})
	if c.Flight() != 1 {
		t.Errorf("Flight %d; want 1", c.Flight())
	}
	for range api.MaxScript {
		c.Do(api.Event{Kind: api.EvCall, Op: api.Op{Kind: api.Balance, From: "ann"}})
	}
	if c.Calls() != api.MaxScript || c.Flight() != api.MaxScript-3 {
		t.Errorf("Calls %d, Flight %d", c.Calls(), c.Flight())
	}
	if open := len(openCalls(c)); open != api.MaxScript {
		t.Errorf("%d calls are open", open)
	}
}

// openCalls are the calls without an answer.
func openCalls(c *Cluster) map[int]api.Op {
	l := map[int]api.Op{}
	for n, o := range c.Open() {
		l[n] = o
	}
	return l
}

// P20.2 (EvRound): at most 2000 letters arrive, the first ones first, and the others stay on their way.
func TestRoundHasAnEnd(t *testing.T) {
	c := newCluster(t, 1, 1, 64)
	rounds(c, 12)
	for range 1900 {
		c.Do(api.Event{Kind: api.EvCall, Op: api.Op{Kind: api.Balance, From: "ann"}})
	}
	told := rounds(c, 1)
	if len(told) != 100 || c.Flight() != 1800 {
		t.Fatalf("%d are told, %d on their way; want 100, 1800", len(told), c.Flight())
	}
	told = append(told, rounds(c, 1)...)
	for k, x := range told {
		if x.Call != k || x.Reply.Why != api.ErrNone {
			t.Fatalf("the answer %d: %+v", k, x)
		}
	}
	if len(told) != 1900 || c.Flight() != 0 {
		t.Fatalf("%d are told, %d on their way", len(told), c.Flight())
	}
}

// P20.2: where the net has no room, what is sent is lost, and all goes on.
func TestNoRoomOnTheWay(t *testing.T) {
	c := newCluster(t, 3, 2, 128)
	rounds(c, 12)
	for range 3 * api.MaxFlight {
		c.Do(api.Event{Kind: api.EvTick})
		if c.Flight() == api.MaxFlight {
			break
		}
	}
	n := c.Calls()
	for i := range 3 {
		wantTold(t, c.Do(api.Event{Kind: api.EvCall, Node: i, Op: api.Op{Kind: api.Balance, From: "ann"}}))
	}
	c.Do(api.Event{Kind: api.EvDouble})
	if c.Flight() != api.MaxFlight || c.Calls() != n+3 {
		t.Fatalf("Flight %d, Calls %d", c.Flight(), c.Calls())
	}
	wantTold(t, rounds(c, 30))
	if c.Flight() != 0 || c.Busy() != 0 {
		t.Errorf("Flight %d, Busy %d", c.Flight(), c.Busy())
	}
}

// P20.2 (EvFail, EvFull, EvCrash), P5: a machine whose sync failed, or whose disk is full, does not work, until it starts again; the others do.
func TestMachinesThatDoNotWork(t *testing.T) {
	for _, spoil := range []api.Event{{Kind: api.EvFail}, {Kind: api.EvFull, N: 1}} {
		c := newCluster(t, 3, 1, 128)
		rounds(c, 12)
		spoil.Node = c.Leader(1)
		c.Do(spoil)
		if !c.Up(spoil.Node) {
			t.Fatal("it does not work ahead of all")
		}
		c.Do(api.Event{Kind: api.EvCall, Node: spoil.Node, Op: api.Op{Kind: api.Open, From: "ann", Key: "o"}})
		wantTold(t, rounds(c, 1))
		if c.Up(spoil.Node) || c.Node(spoil.Node) != nil || c.Disk(spoil.Node) == nil || c.Leader(1) == spoil.Node {
			t.Fatal("it works")
		}
		wantSilent(t, c, spoil.Node)
		rounds(c, 30)
		if l := c.Leader(1); l < 0 || l == spoil.Node || c.Busy() != 0 {
			t.Fatalf("Leader %d, Busy %d", l, c.Busy())
		}
		c.Do(api.Event{Kind: api.EvFull, Node: spoil.Node, N: 0})
		if c.Up(spoil.Node) {
			t.Fatal("it works")
		}
		was := c.Node(c.Leader(1))
		c.Do(api.Event{Kind: api.EvCrash, N: 1 << spoil.Node})
		if !c.Up(spoil.Node) || c.Node(c.Leader(1)) != was {
			t.Fatal("it does not work, or others started again")
		}
		rounds(c, 20)
		if at := c.Node(c.Leader(1)).Applied(1); c.Node(spoil.Node).Applied(1) != at {
			t.Errorf("it has done %d; want %d", c.Node(spoil.Node).Applied(1), at)
		}
	}
}

// wantSilent asks that a machine that does not work sends nothing, whatever comes (P20.4).
func wantSilent(t *testing.T, c *Cluster, i int) {
	t.Helper()
	for range 30 {
		before := c.Flight()
		c.Do(api.Event{Kind: api.EvTick, Node: i})
		c.Do(api.Event{Kind: api.EvDraw, Node: i, N: 1})
		if c.Flight() != before {
			t.Fatalf("the machine %d sends something with a tick", i)
		}
		c.Do(api.Event{Kind: api.EvCall, Node: i, Op: api.Op{}})
		wantTold(t, c.Do(api.Event{Kind: api.EvDeliver, N: -1})) // the last one
		if c.Flight() != before {
			t.Fatalf("the machine %d answers a call", i)
		}
	}
}

// P20.1: a machine that can not start does not work, and the others do; it starts when its disk is one of a machine again.
func TestMachineThatCanNotStart(t *testing.T) {
	c := newCluster(t, 3, 1, 128)
	rounds(c, 20)
	images := c.Images()
	right := bytes.Clone(images[1])
	images[1] = storeWith(t, api.Pair{Key: "foreign", Val: []byte("x")})
	d, why := Load(images, 1)
	if why != api.OK {
		t.Fatalf("Load: %d", why)
	}
	if d.Up(1) || d.Node(1) != nil || d.Disk(1) == nil || !d.Up(0) || !d.Up(2) || d.Nodes() != 3 {
		t.Fatalf("Up: %v, %v, %v", d.Up(0), d.Up(1), d.Up(2))
	}
	wantSilent(t, d, 1)
	rounds(d, 40)
	if l := d.Leader(0); l != 0 && l != 2 || d.Busy() != 0 {
		t.Errorf("Leader %d, Busy %d", l, d.Busy())
	}
	d.Do(api.Event{Kind: api.EvCrash, N: 2})
	if d.Up(1) {
		t.Error("it works")
	}
	images[1] = right
	if d, why = Load(images, 1); why != api.OK || !d.Up(1) {
		t.Errorf("Load: %d", why)
	}
}

// P20.2 (EvCrash): just those machines start again whose bit is 1.
func TestWhoCrashes(t *testing.T) {
	for n := 1; n <= api.MaxNodes; n++ {
		c := newCluster(t, n, 1, 64)
		for which := -3; which < 2<<n; which++ {
			var was []any
			for i := range n {
				was = append(was, c.Node(i))
			}
			c.Do(api.Event{Kind: api.EvCrash, N: which, Node: 77})
			for i := range n {
				if again := any(c.Node(i)) != was[i]; again != (which>>i&1 == 1) {
					t.Errorf("%d of %d: the machine %d starts again: %v", which, n, i, again)
				}
			}
		}
	}
}

// P20.2: what Images and Disk answer are copies, Node is the machine itself; rules 4 and 5: what is handed in is not kept.
func TestCopies(t *testing.T) {
	c := newCluster(t, 1, 1, 64)
	rounds(c, 12)
	images := c.Images()
	kept := bytes.Clone(images[0])
	clear(images[0])
	c.Disk(0).Write(0, []byte("spoilt"))
	if !bytes.Equal(c.Images()[0], kept) || c.Disk(0).Unsynced() != 0 {
		t.Error("what is written into a copy is seen")
	}
	images = c.Images()
	d, _ := Load(images, 1)
	clear(images[0])
	if !bytes.Equal(d.Images()[0], kept) {
		t.Error("what is handed in is kept")
	}
	before := c.Node(0).Info(0)
	if c.Node(0).Draw(3); c.Node(0) != c.Node(0) || before.Role != api.Leader {
		t.Error("Node is not the machine itself")
	}
	l := []int{256, 256}
	c.Do(api.Event{Kind: api.EvCrash, N: 1, L: l})
	if l[0] != 256 || l[1] != 256 {
		t.Error("what is handed in is changed")
	}
}

// P20.2: of two that lead a group, the one of the greater term is its leader, whoever comes first.
func TestLeader(t *testing.T) {
	for elder := range 3 {
		c := newCluster(t, 3, 1, 128)
		for range 20 {
			c.Do(api.Event{Kind: api.EvTick, Node: elder})
			for c.Flight() > 0 {
				c.Do(api.Event{Kind: api.EvDeliver})
			}
		}
		if c.Leader(1) != elder {
			t.Fatalf("Leader %d; want %d", c.Leader(1), elder)
		}
		for range 60 { // the elder leader hears nothing, and nobody hears it
			for i := range 3 {
				if i != elder {
					c.Do(api.Event{Kind: api.EvTick, Node: i})
				}
			}
			for k := c.Flight(); k > 0; k-- {
				deliverAmongOthers(c, elder)
			}
		}
		leader := c.Leader(1)
		if leader == elder || leader < 0 || c.Node(elder).Info(1).Role != api.Leader || c.Node(elder).Info(1).Term >= c.Node(leader).Info(1).Term {
			t.Fatalf("Leader %d, and the elder one %d: %+v", leader, elder, c.Node(elder).Info(1))
		}
		if rounds(c, 2); c.Leader(1) != leader || c.Node(elder).Info(1).Role == api.Leader {
			t.Errorf("Leader %d, and the elder one %d: %+v", c.Leader(1), elder, c.Node(elder).Info(1))
		}
	}
}

// deliverAmongOthers lets the first letter arrive, if it is not to or from a machine; else it is lost.
func deliverAmongOthers(c *Cluster, away int) {
	kind := api.EvDeliver
	if l, _ := c.letters.Look(0); l.To == away || l.From == away {
		kind = api.EvDrop
	}
	c.Do(api.Event{Kind: kind})
}

// P20.2: Busy counts groups without a leader, the chart's move or audit, and what each shard has.
func TestBusy(t *testing.T) {
	c := newCluster(t, 1, 2, 256)
	if c.Busy() != 3 {
		t.Errorf("Busy %d; want 3", c.Busy())
	}
	rounds(c, 12)
	ask := func(o api.Op) {
		c.Do(api.Event{Kind: api.EvCall, Op: o})
		c.Do(api.Event{Kind: api.EvDeliver, N: -1})
	}
	want := func(n int) {
		t.Helper()
		if c.Busy() != n {
			t.Errorf("Busy %d; want %d", c.Busy(), n)
		}
	}
	want(0)
	ask(api.Op{Kind: api.Open, From: "ann", Key: "o"})
	ask(api.Op{Kind: api.Open, From: "dora", Key: "o"})
	ask(api.Op{Kind: api.Deposit, From: "ann", Key: "d", Amount: 5})
	want(0)
	ask(api.Op{Kind: api.Transfer, From: "ann", To: "dora", Key: "t", Amount: 2})
	want(2) // ann is held, and the transfer is pending
	ask(api.Op{Kind: api.Audit})
	want(3)
	rounds(c, 1)
	if c.Busy() == 0 {
		t.Error("Busy 0, ahead of the audit's end")
	}
	rounds(c, 6)
	want(0)
	ask(api.Op{Kind: api.Move, Slot: 0, Shard: 2})
	want(1)
	c.Do(api.Event{Kind: api.EvTick})
	want(2) // and the slot is held back
	rounds(c, 6)
	want(0)
	c.Do(api.Event{Kind: api.EvFail})
	ask(api.Op{Kind: api.Balance, From: "ann"})
	want(3)
}

// P20.2, P20.3: a call with a key is handled once, however often it is on its way: of two answers to it the first one, ErrRetry, would tell that nothing was done, and the second one would not be heard.
func TestDoubledCall(t *testing.T) {
	c := newCluster(t, 1, 1, 128)
	o := api.Op{Kind: api.Open, From: "ann", Key: "o"}
	c.Do(api.Event{Kind: api.EvCall, Op: o})
	c.Do(api.Event{Kind: api.EvDouble})
	c.Do(api.Event{Kind: api.EvDeliver}) // it does not lead yet
	wantTold(t, c.Do(api.Event{Kind: api.EvDeliver, N: 1}), api.Told{Reply: api.Reply{Why: api.ErrRetry}})
	c.Do(api.Event{Kind: api.EvCrash, N: 1})
	for range 12 {
		c.Do(api.Event{Kind: api.EvTick})
	}
	wantTold(t, c.Do(api.Event{Kind: api.EvDeliver}))
	if l := c.Node(0).Shard(1).Rows(); len(l) != 0 || c.Flight() != 0 {
		t.Errorf("%v, Flight %d: it was done, though its client knows that nothing was", l, c.Flight())
	}
	c.Do(api.Event{Kind: api.EvCall, Op: o})
	wantTold(t, rounds(c, 1), api.Told{Call: 1})
}

// P20.2: at a client a Told letter alone is heard.
func TestOnlyToldIsHeard(t *testing.T) {
	c := newCluster(t, 1, 1, 64)
	c.Do(api.Event{Kind: api.EvCall, Op: api.Op{Kind: api.Audit}})
	c.Do(api.Event{Kind: api.EvDrop})
	for _, l := range []client.Letter{{Kind: client.Call}, {Kind: client.Ask}, {Kind: client.Answer}, {Kind: client.Raft}, {Kind: client.Told, N: 1}, {Kind: client.Told, N: -1}} {
		b, _ := client.Pack(l)
		c.letters.Send(0, net.Client, b)
		c.letters.Send(0, net.Client, b[:len(b)-1])
		wantTold(t, c.Do(api.Event{Kind: api.EvDeliver}))
		wantTold(t, c.Do(api.Event{Kind: api.EvDeliver}))
	}
	b, _ := client.Pack(client.Letter{Kind: client.Told, Reply: api.Reply{Why: api.ErrRetry}})
	c.letters.Send(0, net.Client, b)
	c.letters.Send(0, net.Client, b)
	wantTold(t, c.Do(api.Event{Kind: api.EvDeliver}), api.Told{Reply: api.Reply{Why: api.ErrRetry}})
	wantTold(t, c.Do(api.Event{Kind: api.EvDeliver}))
}

// Rule 4: what is told shares no memory with what the desk keeps.
func TestToldIsACopy(t *testing.T) {
	c := newCluster(t, 1, 1, 128)
	rounds(c, 12)
	c.Do(api.Event{Kind: api.EvCall, Op: api.Op{Kind: api.Open, From: "ann", Key: "o"}})
	rounds(c, 1)
	c.Do(api.Event{Kind: api.EvCall, Op: api.Op{Kind: api.Audit}})
	told := rounds(c, 3)
	want := api.Reply{Rows: []api.Row{{Name: "ann"}}}
	wantTold(t, told, api.Told{Call: 1, Reply: want})
	told[0].Reply.Rows[0].Name = "spoilt"
	_, r, _ := c.Call(1)
	if !sameReply(r, want) {
		t.Fatalf("%+v", r)
	}
	r.Rows[0].Name = "spoilt"
	if _, r, _ = c.Call(1); !sameReply(r, want) {
		t.Fatalf("%+v", r)
	}
}

// P1: a cluster that nobody made has no machines.
func TestNobodyMade(t *testing.T) {
	c := &Cluster{}
	for kind := -1; kind <= 11; kind++ {
		wantTold(t, c.Do(api.Event{Kind: kind, N: 1}))
	}
	if c.Calls() != 0 || c.Flight() != 0 || c.Nodes() != 0 || len(c.Images()) != 0 || c.Up(0) || c.Leader(0) != -1 || len(openCalls(c)) != 0 {
		t.Error("something is there")
	}
}
