package node

import (
	"fmt"
	"strings"
	"testing"

	"almoner/api"
	"almoner/crc"
)

// newTrio is three machines of which the first one leads all groups.
func newTrio(t *testing.T, shards, sectors int) *world {
	t.Helper()
	w := newWorld(t, 1, 3, shards, sectors)
	w.rounds(12)
	for g := range shards + 1 {
		if w.leader(g) != 0 {
			t.Fatalf("%d leads the group %d", w.leader(g), g)
		}
	}
	return w
}

// P19.1, P5: a wrong operation is told its error at once, by any machine; a right one is told ErrRetry by one that does not lead.
func TestCallOfAFollower(t *testing.T) {
	x := newNode(t, 0, 3, 2, newDisk(t, 64))
	before := safeOf(x)
	for _, c := range []struct {
		op   api.Op
		want api.Errno
	}{
		{api.Op{}, api.ErrArg},
		{api.Op{Kind: 8, From: "ann"}, api.ErrArg},
		{api.Op{Kind: -1}, api.ErrArg},
		{move(16, 1), api.ErrArg},
		{move(0, 4), api.ErrArg},
		{balance(""), api.ErrName},
		{open("ann", strings.Repeat("k", api.MaxBytes)), api.ErrName},
		{open("Ann", "o"), api.ErrName},
		{deposit("ann", 0, "d"), api.ErrAmount},
		{transfer("ann", "ann", 1, "t"), api.ErrSelf},
		{open("ann", "o"), api.ErrRetry},
		{deposit("ann", 1, "d"), api.ErrRetry},
		{api.Op{Kind: api.Withdraw, From: "ann", Amount: 1, Key: "w"}, api.ErrRetry},
		{transfer("ann", "bob", 1, "t"), api.ErrRetry},
		{balance("ann"), api.ErrRetry},
		{api.Op{Kind: api.Audit}, api.ErrRetry},
		{move(0, 1), api.ErrRetry},
	} {
		wantTold(t, x.Handle(-1, callOf(t, 4, c.op)), 4, api.Reply{Why: c.want})
	}
	for g, s := range safeOf(x) {
		if !sameSafe(s, before[g]) {
			t.Errorf("the group %d has %+v; want %+v", g, s, before[g])
		}
	}
}

// P19.1: what is proposed is told when it is agreed on, not ahead of that, and by the machine that was asked alone.
func TestToldWhenItIsDone(t *testing.T) {
	w := newTrio(t, 1, 128)
	w.call(0, 5, open("ann", "o"))
	w.wantToldOf()
	w.deliver(0, false) // to the first other one; its answer is on its way
	w.wantToldOf()
	w.arrive()
	w.wantToldOf(told{0, 5, api.Reply{}})
	w.rounds(3)
	w.wantToldOf()
	for i, x := range w.nodes {
		if l := x.Shard(1).Rows(); len(l) != 1 || l[0] != (api.Row{Name: "ann"}) {
			t.Errorf("the machine %d has %v", i, l)
		}
	}
}

// P19.1: what is overtaken by another entry is told nothing.
func TestOvertaken(t *testing.T) {
	w := newTrio(t, 1, 128)
	w.wantAnswer(open("ann", "o"), api.Reply{})
	w.away[0] = 1
	w.call(0, 5, deposit("ann", 7, "d"))
	w.call(0, 6, balance("ann"))
	w.rounds(20)
	w.wantToldOf()
	w.wantAnswer(deposit("ann", 1, "e"), api.Reply{})
	clear(w.away)
	w.rounds(5)
	w.wantToldOf()
	w.wantAnswer(balance("ann"), api.Reply{Amount: 1})
	if w.nodes[0].Info(1).Role == api.Leader || len(w.nodes[0].groups[1].orders) > 0 {
		t.Errorf("the first machine leads, or waits for %v", w.nodes[0].groups[1].orders)
	}
}

// P19.1: what a snapshot passes over is told nothing, and nothing waits for it.
func TestPassedOver(t *testing.T) {
	w := newTrio(t, 2, 64)
	for _, name := range []string{"ann", "dora"} {
		w.wantAnswer(open(name, "o"), api.Reply{})
		w.wantAnswer(deposit(name, 9, "d"), api.Reply{})
	}
	w.call(0, 5, transfer("ann", "dora", 4, "t"))
	w.arrive()
	w.call(0, 6, api.Op{Kind: api.Audit})
	w.arrive()
	w.wantToldOf()
	w.away[0] = 1
	w.rounds(20)
	for i := range 8 {
		w.wantAnswer(deposit("ann", 1, fmt.Sprint("k", i)), api.Reply{})
	}
	clear(w.away)
	w.rounds(5)
	w.wantToldOf()
	for g, x := range w.nodes[0].groups {
		if x.applied != w.nodes[1].Applied(g) || len(x.waits)+len(x.orders) > 0 {
			t.Errorf("the group %d is done up to %d (want %d); %v and %v wait", g, x.applied, w.nodes[1].Applied(g), x.waits, x.orders)
		}
	}
	r := w.ask(api.Op{Kind: api.Audit})
	if len(r.Rows) != 2 || r.Rows[0].Amount+r.Rows[1].Amount != 26 {
		t.Errorf("Audit: %+v", r)
	}
}

// P19.1: a leader that can not reach a majority takes some commands, then none: ErrRetry, and nothing was done.
func TestTakesNoCommandNow(t *testing.T) {
	w := newTrio(t, 1, 512)
	w.away[0] = 1
	n := int64(0)
	for ; len(w.told) == 0 && n < 1000; n++ {
		w.call(0, n, open(fmt.Sprint("a", n), "o"))
	}
	if n < 2 {
		t.Fatalf("it takes %d commands", n-1)
	}
	w.wantToldOf(told{0, n - 1, api.Reply{Why: api.ErrRetry}})
	w.call(0, n, balance("a0"))
	w.wantToldOf(told{0, n, api.Reply{Why: api.ErrRetry}})
	clear(w.away)
	w.rounds(2)
	if len(w.told) != int(n)-1 {
		t.Fatalf("told: %+v", w.told)
	}
	for k, x := range w.told {
		if x.n != int64(k) || x.reply.Why != api.OK {
			t.Fatalf("told: %+v", w.told)
		}
	}
	w.told = nil
	w.wantAnswer(balance(fmt.Sprint("a", n-1)), api.Reply{Why: api.ErrNone})
}

// P19.1: a transfer between two shards is told when it is decided, a move when its last step is done, an audit with its rows when it is cut; and what begins a second time is told ErrRetry.
func TestWhatWaits(t *testing.T) {
	w := newTrio(t, 2, 256)
	for _, name := range []string{"ann", "dora"} {
		w.wantAnswer(open(name, "o"), api.Reply{})
	}
	w.wantAnswer(deposit("ann", 9, "d"), api.Reply{})
	w.call(0, 5, transfer("ann", "dora", 4, "t"))
	w.call(0, 6, transfer("ann", "dora", 4, "t"))
	w.arrive()
	w.wantToldOf(told{0, 6, api.Reply{Why: api.ErrRetry}})
	w.rounds(1)
	w.wantToldOf(told{0, 5, api.Reply{}})
	w.rounds(1)
	w.wantToldOf()

	w.call(0, 7, api.Op{Kind: api.Audit})
	w.call(0, 8, api.Op{Kind: api.Audit})
	w.call(0, 9, move(0, 2))
	w.arrive()
	w.wantToldOf(told{0, 8, api.Reply{Why: api.ErrRetry}}, told{0, 9, api.Reply{Why: api.ErrRetry}})
	w.rounds(1)
	w.wantToldOf(told{0, 7, api.Reply{Rows: []api.Row{{Name: "ann", Amount: 5}, {Name: "dora", Amount: 4}}}})
	w.rounds(2)

	slot, to := crc.Slot("ann"), 3-w.owner(0, "ann")
	w.call(0, 10, move(slot, to))
	w.arrive()
	w.wantToldOf()
	for range 5 {
		if w.rounds(1); len(w.told) > 0 {
			break
		}
	}
	w.wantToldOf(told{0, 10, api.Reply{}})
	w.rounds(1)
	for i, x := range w.nodes {
		if x.Chart().Owner(slot) != to || w.owner(i, "ann") != to || x.Chart().Move().N != 0 {
			t.Errorf("the machine %d: the slot %d is of %d and of %d; want %d", i, slot, x.Chart().Owner(slot), w.owner(i, "ann"), to)
		}
	}
	w.call(0, 11, move(slot, to)) // it is there already
	w.arrive()
	w.wantToldOf(told{0, 11, api.Reply{}})
}

// P19.1, P2: to a shard that there is not no slot moves, and the answer is what one ledger alone would answer.
func TestMoveToNoShard(t *testing.T) {
	x := newAlone(t, 2, newDisk(t, 64))
	before := string(x.Chart().Image())
	for slot := range api.Slots {
		wantTold(t, x.Handle(-1, callOf(t, 4, move(slot, 3))), 4, api.Reply{})
	}
	if string(x.Chart().Image()) != before {
		t.Error("the chart has changed")
	}
}

// P19.1: what plays no part in an operation is not told of: it could be more than a command has room for.
func TestWhatPlaysNoPart(t *testing.T) {
	x := newAlone(t, 2, newDisk(t, 128))
	long := strings.Repeat("x", api.MaxBytes)
	o := api.Op{Kind: api.Open, From: "ann", To: long, Amount: -5, Key: "o", Slot: -1, Shard: 77}
	wantTold(t, x.Handle(-1, callOf(t, 1, o)), 1, api.Reply{})
	wantTold(t, x.Handle(-1, callOf(t, 1, open("ann", "o"))), 1, api.Reply{})
	o = api.Op{Kind: api.Deposit, From: "ann", To: long, Amount: 5, Key: "d", Slot: -1, Shard: 77}
	wantTold(t, x.Handle(-1, callOf(t, 2, o)), 2, api.Reply{})
	wantTold(t, x.Handle(-1, callOf(t, 2, deposit("ann", 5, "d"))), 2, api.Reply{})
	o = api.Op{Kind: api.Balance, From: "ann", To: long, Key: long, Amount: -1}
	wantTold(t, x.Handle(-1, callOf(t, 3, o)), 3, api.Reply{Amount: 5})
	wantAlone(t, x, api.Op{Kind: api.Audit, From: long, To: long, Key: long}, api.Reply{Rows: []api.Row{{Name: "ann", Amount: 5}}})
	wantAlone(t, x, api.Op{Kind: api.Move, From: long, To: long, Key: long, Slot: 1, Shard: 1}, api.Reply{})
}
