package node

import (
	"fmt"
	"testing"

	"almoner/api"
	"almoner/chart"
	"almoner/client"
	"almoner/crc"
	"almoner/shard"
	"almoner/txn"
)

// ann's slot is the first shard's of two and of three, dora's the second one's.
const (
	slotOfAnn  = 0
	slotOfDora = 1
)

// asksOf takes the asks out of what is sent: to whom each goes, and what it asks for.
func asksOf(t *testing.T, l []Out) []string {
	t.Helper()
	var asks []string
	for _, out := range l {
		x := unpack(t, out.Data)
		if x.Kind != client.Ask {
			continue
		}
		a, why := txn.Parse(x.Body)
		if why != api.OK {
			t.Fatalf("an ask of %x: %d", x.Body, why)
		}
		asks = append(asks, fmt.Sprintf("to %d of %d at %d: %+v", out.To, x.N, a.Group, a.Cmd))
	}
	return asks
}

// wantAsks asks that a tick of a machine sends just these asks.
func wantAsks(t *testing.T, w *world, i int, want ...string) {
	t.Helper()
	l := w.nodes[i].Tick()
	if got := asksOf(t, l); fmt.Sprint(got) != fmt.Sprint(want) {
		t.Fatalf("asked: %v; want %v", got, want)
	}
	w.settle(i, l)
}

// asked is an ask as asksOf tells it.
func asked(to, of, at int, c shard.Cmd) string {
	return fmt.Sprintf("to %d of %d at %d: %+v", to, of, at, c)
}

// P19.1 (asks): with each tick the leader of a shard asks all machines for its transfers, and that of the chart for its move and its audit; another machine asks for nothing.
func TestAsks(t *testing.T) {
	w := newTrio(t, 3, 256)
	for _, name := range []string{"ann", "dora"} {
		w.wantAnswer(open(name, "o"), api.Reply{})
	}
	w.wantAnswer(deposit("ann", 9, "d"), api.Reply{})
	w.call(0, 5, transfer("ann", "dora", 4, "t"))
	w.arrive()
	id := w.nodes[0].Shard(1).Pending()[0].Id
	prepare := shard.Cmd{Kind: shard.CmdPrepare, Id: id, Name: "dora", N: 4}
	for i := range 3 {
		wantAsks(t, w, i, map[int][]string{0: {asked(1, 1, 2, prepare), asked(2, 1, 2, prepare), asked(1, 1, 3, prepare), asked(2, 1, 3, prepare)}}[i]...)
	}
	w.arrive()
	w.wantToldOf(told{0, 5, api.Reply{}})
	finish := shard.Cmd{Kind: shard.CmdFinish, Id: id, Name: "dora"}
	wantAsks(t, w, 0, asked(1, 1, 2, finish), asked(2, 1, 2, finish), asked(1, 1, 3, finish), asked(2, 1, 3, finish))
	w.arrive()
	wantAsks(t, w, 0)

	w.call(0, 6, move(slotOfAnn, 3))
	w.arrive()
	hold := shard.Cmd{Kind: shard.CmdHold, Slot: slotOfAnn, Epoch: 1}
	wantAsks(t, w, 1)
	wantAsks(t, w, 0, asked(1, 0, 1, hold), asked(2, 0, 1, hold))
	w.rounds(5)
	w.wantToldOf(told{0, 6, api.Reply{}})

	w.call(0, 7, api.Op{Kind: api.Audit})
	w.arrive()
	freeze := shard.Cmd{Kind: shard.CmdFreeze, Epoch: 2}
	wantAsks(t, w, 2)
	wantAsks(t, w, 0, asked(1, 0, 1, freeze), asked(2, 0, 1, freeze), asked(1, 0, 2, freeze), asked(2, 0, 2, freeze), asked(1, 0, 3, freeze), asked(2, 0, 3, freeze))
}

// P19.1 (asks): whoever leads the group that is asked does the command, and answers with its result, as the page says; another machine says nothing.
func TestAnswers(t *testing.T) {
	x := newAlone(t, 2, newDisk(t, 128))
	y := newNode(t, 0, 2, 2, newDisk(t, 128))
	wantAlone(t, x, open("dora", "o"), api.Reply{})
	refused := shard.Cmd{Kind: shard.CmdPrepare, Id: "i", Name: "bob", N: 4}
	for _, c := range []struct {
		from  int
		n     int64
		group int
		cmd   shard.Cmd
		want  shard.Result
	}{
		{1, 1, 2, shard.Cmd{Kind: shard.CmdPrepare, Id: "i", Name: "dora", N: 4}, shard.Result{}},
		{1, 1, 2, shard.Cmd{Kind: shard.CmdPrepare, Id: "i", Name: "dora", N: 4}, shard.Result{}}, // again
		{-1, 0, 2, shard.Cmd{Kind: shard.CmdPrepare, Id: "j", Name: "dora", N: 4}, shard.Result{Why: api.ErrRetry}},
		{4, 2, 1, refused, shard.Result{Why: api.ErrNone}},
		{2, 0, 2, refused, shard.Result{Why: api.ErrState}},
		{2, 0, 2, shard.Cmd{Kind: 99}, shard.Result{Why: api.ErrArg}},
		{1, 1, 2, shard.Cmd{Kind: shard.CmdFinish, Id: "i", Name: "dora"}, shard.Result{}},
		{1, 0, 2, shard.Cmd{Kind: shard.CmdFreeze, Epoch: 1}, shard.Result{Reply: api.Reply{Rows: []api.Row{{Name: "dora", Amount: 4}}}}},
		{1, 0, 2, shard.Cmd{Kind: shard.CmdThaw, Epoch: 1}, shard.Result{}},
		{1, 0, 2, shard.Cmd{Kind: shard.CmdOp, Op: balance("dora")}, shard.Result{Reply: api.Reply{Amount: 4}}},
	} {
		want := Out{To: c.from, Data: answerOf(t, c.n, c.group, c.cmd, c.want)}
		wantOuts(t, x.Handle(c.from, askOf(t, c.n, c.group, c.cmd)), want)
		wantOuts(t, y.Handle(c.from, askOf(t, c.n, c.group, c.cmd)))
	}
}

// P19.1, P1: asks and answers of groups that there are not, or of the chart's, and answers of nothing that is asked for, do nothing.
func TestAsksOfNoGroup(t *testing.T) {
	x := newAlone(t, 2, newDisk(t, 128))
	thaw := shard.Cmd{Kind: shard.CmdThaw, Epoch: 3}
	before := safeOf(x)
	for _, b := range [][]byte{
		askOf(t, 1, 0, thaw), askOf(t, 1, 3, thaw), askOf(t, -1, 1, thaw), askOf(t, 3, 1, thaw), askOf(t, 1<<62, 1, thaw),
		answerOf(t, 3, 1, thaw, shard.Result{}), answerOf(t, -1, 1, thaw, shard.Result{}), answerOf(t, -1<<63, 1, thaw, shard.Result{}),
		answerOf(t, 0, 1, thaw, shard.Result{}), answerOf(t, 1, 2, shard.Cmd{Kind: shard.CmdPrepare, Id: "i"}, shard.Result{}),
		answerOf(t, 1, 2, shard.Cmd{Kind: shard.CmdFinish, Id: "i"}, shard.Result{}),
		answerOf(t, 0, 1, shard.Cmd{Kind: shard.CmdHold, Epoch: 1}, shard.Result{}),
		answerOf(t, 0, 1, shard.Cmd{Kind: shard.CmdFreeze, Epoch: 1}, shard.Result{}),
	} {
		wantOuts(t, x.Handle(1, b))
	}
	for g, s := range safeOf(x) {
		if !sameSafe(s, before[g]) {
			t.Errorf("the group %d has %+v; want %+v", g, s, before[g])
		}
	}
}

// P19.1, rule 6: what is asked for twice while it is under way stands in the log once, and all who asked are answered.
func TestAskedTwice(t *testing.T) {
	w := newTrio(t, 2, 128)
	thaw := shard.Cmd{Kind: shard.CmdThaw, Epoch: 3}
	before, _ := w.nodes[0].groups[2].Log().Last()
	for _, from := range []int{1, 2, 1, 2, 2} {
		w.settle(0, w.nodes[0].Handle(from, askOf(t, 0, 2, thaw)))
	}
	if last, _ := w.nodes[0].groups[2].Log().Last(); last != before+1 {
		t.Errorf("the log ends at %d; want %d", last, before+1)
	}
	answers := map[int]int{}
	for len(w.flight) > 0 {
		if l := w.flight[0]; unpack(t, l.data).Kind == client.Answer {
			answers[l.to]++
		}
		w.deliver(0, false)
	}
	if answers[1] != 1 || answers[2] != 1 || len(answers) != 2 {
		t.Errorf("answered: %v", answers)
	}
}

// P6, P19.3: a transfer to an account whose slot comes to its own shard before it is prepared ends there.
func TestTransferToASlotThatComes(t *testing.T) {
	x := newAlone(t, 2, newDisk(t, 256))
	for _, name := range []string{"ann", "dora"} {
		wantAlone(t, x, open(name, "o"), api.Reply{})
	}
	wantAlone(t, x, deposit("ann", 9, "d"), api.Reply{})
	wantOuts(t, x.Handle(-1, callOf(t, 1, transfer("ann", "dora", 4, "t"))))
	wantOuts(t, x.Handle(-1, callOf(t, 2, move(slotOfDora, 1))))
	var l []Out
	for range 20 {
		l = append(l, x.Tick()...)
	}
	wantOuts(t, l, toldOutOf(t, -1, 2, api.Reply{}), toldOutOf(t, -1, 1, api.Reply{}))
	if x.Chart().Owner(crc.Slot("dora")) != 1 || x.Shard(1).Busy()+len(x.Shard(1).Pending()) > 0 {
		t.Error("the slot has not come, or something is busy")
	}
	wantAlone(t, x, api.Op{Kind: api.Audit}, api.Reply{Rows: []api.Row{{Name: "ann", Amount: 5}, {Name: "dora", Amount: 4}}})
}

// P6: a slot that is to move waits for a transfer to an account of it that is prepared: the answer to that may be lost, and is asked for again.
func TestSlotWaitsForATransfer(t *testing.T) {
	w := newTrio(t, 2, 256)
	for _, name := range []string{"ann", "dora"} {
		w.wantAnswer(open(name, "o"), api.Reply{})
	}
	w.wantAnswer(deposit("ann", 9, "d"), api.Reply{})
	w.call(0, 1, transfer("ann", "dora", 4, "t"))
	w.arrive()
	prepare := shard.Cmd{Kind: shard.CmdPrepare, Id: w.nodes[0].Shard(1).Pending()[0].Id, Name: "dora", N: 4}
	w.settle(0, w.nodes[0].Handle(2, askOf(t, 1, 2, prepare))) // the answer goes to another machine, which does nothing with it
	w.arrive()
	w.call(0, 2, move(slotOfDora, 1))
	hold := shard.Cmd{Kind: shard.CmdHold, Slot: slotOfDora, Epoch: 1}
	w.arrive()
	w.settle(0, w.nodes[0].Handle(2, askOf(t, 0, 2, hold)))
	w.arrive()
	if w.nodes[0].Shard(2).Busy() != 1 {
		t.Fatalf("%d are busy; want dora alone, which is held", w.nodes[0].Shard(2).Busy())
	}
	w.rounds(8)
	w.wantToldOf(told{0, 1, api.Reply{}}, told{0, 2, api.Reply{}})
	w.wantAnswer(balance("dora"), api.Reply{Amount: 4})
}

// P6: of many transfers all are asked for, some with each tick.
func TestManyTransfers(t *testing.T) {
	x := newAlone(t, 2, newDisk(t, 4096))
	var from []string
	for i := 0; len(from) < 60; i++ {
		if name := fmt.Sprint("a", i); crc.Slot(name)%2 == 0 {
			from = append(from, name)
			wantTold(t, x.Handle(-1, callOf(t, 1, open(name, "o"))), 1, api.Reply{})
			wantTold(t, x.Handle(-1, callOf(t, 1, deposit(name, 2, "d"))), 1, api.Reply{})
		}
	}
	for i, name := range from {
		wantOuts(t, x.Handle(-1, callOf(t, int64(100+i), transfer(name, "dora", 1, "t"))))
	}
	if got := len(x.Shard(1).Pending()); got != len(from) {
		t.Fatalf("%d transfers", got)
	}
	answered := map[int]int{}
	for range 20 {
		for _, out := range x.Tick() {
			l := unpack(t, out.Data)
			if l.Reply.Why != api.ErrNone {
				t.Fatalf("told: %+v", l)
			}
			answered[int(l.N)]++
		}
	}
	if len(answered) != len(from) || len(x.Shard(1).Pending()) > 0 {
		t.Errorf("told of %d; %d transfers are left", len(answered), len(x.Shard(1).Pending()))
	}
}

// P6: an audit whose leader is cut off is ended by the next one: the shards thaw.
func TestAuditGoesOn(t *testing.T) {
	w := newTrio(t, 2, 256)
	w.wantAnswer(open("ann", "o"), api.Reply{})
	w.call(0, 5, api.Op{Kind: api.Audit})
	w.arrive()
	w.tick(0)
	w.arrive()
	w.wantToldOf(told{0, 5, api.Reply{Rows: []api.Row{{Name: "ann"}}}})
	w.away[0] = 1
	w.rounds(25)
	if n, _ := w.nodes[w.leader(0)].Chart().Audit(); n != 0 {
		t.Error("the audit is not over")
	}
	clear(w.away)
	w.rounds(5)
	w.wantToldOf()
	for i, x := range w.nodes {
		if x.Shard(1).Busy()+x.Shard(2).Busy() > 0 {
			t.Errorf("the machine %d has a frozen shard", i)
		}
	}
}

// P6: of a list that is longer than what is asked for with one tick each transfer has its turn, whatever becomes of the others.
func TestTurns(t *testing.T) {
	for _, n := range []int{0, 1, mostAsked, mostAsked + 1, 50, 60, 199} {
		l := make([]shard.Txn, n)
		for i := range l {
			l[i].Id = fmt.Sprint(i)
		}
		g := newGroup(1, 2)
		seen := map[string]int{}
		for range (n + mostAsked - 1) / mostAsked {
			part := g.next(l)
			if len(part) != min(n, mostAsked) {
				t.Fatalf("%d of %d are asked for", len(part), n)
			}
			for _, x := range part {
				seen[x.Id]++
			}
		}
		if len(seen) != n {
			t.Errorf("%d of %d have their turn", len(seen), n)
		}
	}
}

// P19.1 (asks): an answer that does not tell of the group that was asked does nothing; of two answers that come ahead of what follows, that is proposed once; and a leader that can not reach a majority takes but some commands that are asked for.
func TestWhatFollowsAnAnswer(t *testing.T) {
	w := newTrio(t, 2, 512)
	for _, name := range []string{"ann", "dora"} {
		w.wantAnswer(open(name, "o"), api.Reply{})
	}
	w.wantAnswer(deposit("ann", 9, "d"), api.Reply{})
	w.call(0, 5, transfer("ann", "dora", 4, "t"))
	w.arrive()
	x := w.nodes[0]
	last := func(g int) int64 {
		at, _ := x.groups[g].Log().Last()
		return at
	}
	prepare := shard.Cmd{Kind: shard.CmdPrepare, Id: x.Shard(1).Pending()[0].Id, Name: "dora", N: 4}
	before := last(1)
	wrong := unpack(t, answerOf(t, 1, 2, prepare, shard.Result{Why: api.ErrNone}))
	wrong.Group = 1
	w.settle(0, x.Handle(1, pack(t, wrong)))
	if last(1) != before {
		t.Fatal("something follows an answer of another group")
	}
	for range 3 {
		w.settle(0, x.Handle(1, answerOf(t, 1, 2, prepare, shard.Result{Why: api.ErrNone})))
	}
	if last(1) != before+1 {
		t.Fatalf("%d commands follow; want 1", last(1)-before)
	}
	w.arrive()
	w.wantToldOf(told{0, 5, api.Reply{Why: api.ErrNone}})

	w.away[0] = 1
	before = last(2)
	for k := range int64(500) {
		w.settle(0, x.Handle(1, askOf(t, 0, 2, shard.Cmd{Kind: shard.CmdThaw, Epoch: k})))
	}
	if n := last(2) - before; n < 2 || n > mostTaken {
		t.Errorf("it takes %d commands", n)
	}
}

// roundsOf lets rounds go by in which just these messages arrive, and no letter else.
func (w *world) roundsOf(n int, arrives func(m api.Msg) bool) {
	w.t.Helper()
	for range n {
		for i := range w.nodes {
			w.tick(i)
		}
		for len(w.flight) > 0 {
			if m, is := messageOf(w.t, w.flight[0].data); is && arrives(m) {
				w.deliver(0, false)
			} else {
				w.flight = w.flight[1:]
			}
		}
	}
}

// P6: where the leader of an audit has all answers, but what follows is overtaken, it asks again when it leads again.
func TestAuditOfALeaderThatLeadsAgain(t *testing.T) {
	w := newTrio(t, 2, 256)
	w.wantAnswer(open("ann", "o"), api.Reply{})
	w.call(0, 5, api.Op{Kind: api.Audit})
	w.arrive()
	w.roundsOf(3, func(m api.Msg) bool { return m.Group > 0 || len(m.Entries) == 0 })
	if _, phase := w.nodes[0].Chart().Audit(); phase != chart.Collect || len(w.nodes[0].groups[0].orders) == 0 {
		t.Fatalf("the audit is in the phase %d, %v wait", phase, w.nodes[0].groups[0].orders)
	}
	ofTheChart := func(m api.Msg) bool { return m.Group == 0 }
	w.away[0] = 1
	w.roundsOf(15, ofTheChart)
	if w.leader(0) != 1 {
		t.Fatalf("%d leads", w.leader(0))
	}
	clear(w.away)
	w.roundsOf(2, ofTheChart)
	w.away[1] = 1
	w.roundsOf(15, ofTheChart)
	if _, phase := w.nodes[0].Chart().Audit(); w.leader(0) != 0 || phase != chart.Collect || w.nodes[0].Info(0).Term < 3 {
		t.Fatalf("%d leads, in the phase %d: %+v", w.leader(0), phase, w.nodes[0].Info(0))
	}
	for range 60 {
		for i := range w.nodes {
			if !w.nodes[i].groups[0].leads() || i == 0 {
				w.tick(i)
			}
		}
		w.arrive()
	}
	if n, _ := w.nodes[0].Chart().Audit(); n != 0 {
		t.Error("the audit is not over")
	}
	w.wantToldOf(told{0, 5, api.Reply{Rows: []api.Row{{Name: "ann"}}}})
}

// P6: where the log has no room for what follows an audit's last answer, the shards are asked again.
func TestAuditOfAFullLog(t *testing.T) {
	w := newTrio(t, 1, api.MaxSectors)
	w.wantAnswer(open("ann", "o"), api.Reply{})
	w.call(0, 5, api.Op{Kind: api.Audit})
	w.arrive()
	g := w.nodes[0].groups[0]
	for {
		if _, _, why := g.Propose(nil); why != api.OK {
			break
		}
	}
	g.touched = true
	if g.Log().Len() != api.MaxLog {
		t.Fatalf("the log has %d entries", g.Log().Len())
	}
	w.tick(0)
	for len(w.flight) > 0 {
		if m, is := messageOf(t, w.flight[0].data); is && m.Group == 0 {
			w.flight = w.flight[1:]
			continue
		}
		w.deliver(0, false)
	}
	w.wantToldOf()
	w.rounds(5)
	w.wantToldOf(told{0, 5, api.Reply{Rows: []api.Row{{Name: "ann"}}}})
}

// P19.1 (asks): what another leader has overtaken is not under way any more.
func TestOvertakenIsNotUnderWay(t *testing.T) {
	w := newTrio(t, 1, 128)
	w.away[1], w.away[2] = 1, 1
	thaw := shard.Cmd{Kind: shard.CmdThaw, Epoch: 3}
	g := w.nodes[0].groups[1]
	w.settle(0, w.nodes[0].Handle(1, askOf(t, 0, 1, thaw)))
	last, _ := g.Log().Last()
	g.orders[last].term-- // as if the entry there was another leader's
	w.settle(0, w.nodes[0].Handle(1, askOf(t, 0, 1, thaw)))
	if now, _ := g.Log().Last(); now != last+1 {
		t.Errorf("the log ends at %d; want %d", now, last+1)
	}
}
