package mover

import (
	"fmt"
	"maps"
	"math/rand"
	"slices"
	"testing"

	"almoner/api"
	"almoner/chart"
	"almoner/shard"
	"almoner/txn"
)

// machines is how many have a mover.
const machines = 3

// names is the accounts' names, those of few slots, so that there is much to move; nobody opens the last three.
func names() []string {
	var l []string
	for i := range 3 {
		for slot := range 4 {
			l = append(l, named(slot, i))
		}
	}
	return l
}

// world is shards, a chart, and machines that drive its moves and the shards' transfers; what is on its way may be lost, doubled and late.
type world struct {
	t       *testing.T
	r       *rand.Rand
	shards  []*shard.Shard
	chart   *chart.Chart
	movers  [machines]*Mover
	sees    [machines]chart.Moving // the move as a machine knows it: it may be an elder one
	letters []letter
	names   []string
	asked   []api.Op
	known   map[request]answered // all that was answered, but ErrRetry
	came    int64                // by Deposit, less what went by Withdraw, with OK, each key once
	rows    map[int][]api.Row    // that the shards have told of the audit
	ended   map[string]int
}

// letter is something on its way.
type letter interface{ arrive(w *world) }

// transferAsk is an ask of a shard for its transfers, and what it was answered.
type transferAsk struct {
	me     int
	ask    txn.Ask
	result *shard.Result
}

// moveAsk is an ask of a machine for the move, and what it was answered.
type moveAsk struct {
	machine int
	ask     txn.Ask
	result  *shard.Result
}

// moveStep is a command on its way to the chart.
type moveStep struct{ cmd chart.Cmd }

// request is what an answer is kept for.
type request struct{ from, key string }

// answered is an operation, and what it was answered.
type answered struct {
	op  api.Op
	why api.Errno
}

func newWorld(t *testing.T, r *rand.Rand, shards int) *world {
	w := &world{t: t, r: r, chart: mustChart(t, shards), names: names(), known: map[request]answered{}, rows: map[int][]api.Row{}, ended: map[string]int{}}
	for i := range w.movers {
		w.movers[i] = New()
	}
	for me := 1; me <= shards; me++ {
		w.shards = append(w.shards, mustShard(t, me, shards))
	}
	return w
}

// wired is a result as it comes back, written and read.
func (w *world) wired(a txn.Ask) *shard.Result {
	b, why := txn.Bytes(a)
	a, whyNot := txn.Parse(b)
	if why != api.OK || whyNot != api.OK {
		w.t.Fatalf("%+v: Bytes %d, Parse %d", a, why, whyNot)
	}
	b, why = txn.PutResult(w.shards[a.Group-1].Do(a.Cmd))
	r, whyNot := txn.GetResult(b)
	if why != api.OK || whyNot != api.OK {
		w.t.Fatalf("%+v: PutResult %d, GetResult %d", a, why, whyNot)
	}
	return &r
}

func (x transferAsk) arrive(w *world) {
	if x.result == nil {
		x.result = w.wired(x.ask)
		w.letters = append(w.letters, x)
		return
	}
	c, is := txn.Next(x.ask, *x.result)
	if !is {
		return
	}
	s := w.shards[x.me-1]
	i := slices.IndexFunc(s.Pending(), func(p shard.Txn) bool { return p.Id == c.Id })
	if i < 0 {
		return
	}
	p := s.Pending()[i]
	if r := s.Do(c); c.Kind == shard.CmdDecide && r.Why == api.OK {
		w.ended[fmt.Sprint("decided ", r.Reply.Why)]++
		w.hear(transfer(p.From, p.To, p.N, p.Key), r.Reply.Why)
	}
}

func (x moveAsk) arrive(w *world) {
	if x.result == nil {
		x.result = w.wired(x.ask)
		w.letters = append(w.letters, x)
		return
	}
	if x.ask.Cmd.At > 0 && x.result.Why == api.OK {
		w.ended["a later piece"]++
	}
	if c, is := w.movers[x.machine].Told(w.sees[x.machine], x.ask, *x.result); is {
		w.letters = append(w.letters, moveStep{c})
	}
}

func (x moveStep) arrive(w *world) {
	was := w.chart.Move()
	if w.chart.Do(x.cmd).Why != api.OK || was.Phase != chart.Drop {
		return
	}
	w.ended["moved"]++
	if from, to := w.shards[was.From-1], w.shards[was.To-1]; from.Owns(w.names[was.Slot]) || !to.Owns(w.names[was.Slot]) {
		w.t.Fatalf("%+v has ended: From owns it, or To does not", was)
	}
}

// mustCome tells whether a letter may not be lost. A Prepare that was done is not answered OK a second time once its slot is held back, while the slot waits for the account to be free: what it was answered may be late, but comes.
func mustCome(x letter) bool {
	a, is := x.(transferAsk)
	return is && a.result != nil && a.ask.Cmd.Kind == shard.CmdPrepare && a.result.Why == api.OK
}

// hear learns what an operation was answered.
func (w *world) hear(o api.Op, why api.Errno) {
	is := request{o.From, o.Key}
	was, before := w.known[is]
	switch {
	case why == api.ErrRetry:
		return
	case before && was.why != why:
		w.t.Fatalf("%+v was answered %d, and now %d", o, was.why, why)
	case before:
		return
	}
	w.known[is] = answered{o, why}
	switch {
	case why == api.OK && o.Kind == api.Deposit:
		w.came += o.Amount
	case why == api.OK && o.Kind == api.Withdraw:
		w.came -= o.Amount
	}
}

// call asks any shard for an operation, most often the one that has the account.
func (w *world) call(o api.Op) {
	me := w.home(slotOf(o.From))
	if w.r.Intn(5) == 0 {
		me = 1 + w.r.Intn(len(w.shards))
	}
	r := w.shards[me-1].Do(op(o))
	if r.Wait {
		w.ended["began"]++
	}
	w.hear(o, r.Reply.Why)
}

// someCall is an operation with a small amount, often one that was asked before; at first accounts and money come.
func (w *world) someCall(n int) api.Op {
	if len(w.asked) > 0 && w.r.Intn(5) == 0 {
		return oneOf(w.r, w.asked...)
	}
	o := api.Op{
		Kind:   oneOf(w.r, api.Open, api.Deposit, api.Withdraw, api.Transfer, api.Transfer, api.Transfer, api.Transfer),
		From:   oneOf(w.r, w.names[:9]...),
		To:     oneOf(w.r, w.names[9:]...),
		Amount: 1 + w.r.Int63n(9),
		Key:    fmt.Sprint("a_key_of_some_length_", n),
	}
	if to := oneOf(w.r, w.names[:9]...); to != o.From {
		o.To = to
	}
	if n < 60 {
		o.Kind = api.Open + n%2
	}
	w.asked = append(w.asked, o)
	return o
}

// home is the shard that has a slot's accounts: of one that moves the new one, once it owns it.
func (w *world) home(slot int) int {
	x := w.chart.Move()
	if x.Phase != chart.Idle && x.Slot == slot && w.shards[x.To-1].Owns(w.names[slot]) {
		return x.To
	}
	return w.chart.Owner(slot)
}

// strayed is the slots to whose accounts a shard sends that has them itself: it does not ask itself, so that the transfer waits until the slot has moved on.
func (w *world) strayed() []int {
	var l []int
	for me, s := range w.shards {
		for _, x := range s.Pending() {
			if w.home(slotOf(x.To)) == me+1 {
				l = append(l, slotOf(x.To))
			}
		}
	}
	return l
}

// begin lets a slot move, ahead of others one that has strayed.
func (w *world) begin() {
	slot := w.r.Intn(4)
	if l := w.strayed(); len(l) > 0 {
		slot = l[0]
	}
	w.chart.Do(chart.Cmd{Kind: chart.CmdMove, Slot: slot, Shard: 1 + (w.home(slot)+w.r.Intn(len(w.shards)-1))%len(w.shards)})
}

// post puts on its way what a machine asks for the move, and what a shard asks for its transfers.
func (w *world) post(machine, me int) {
	for a := range w.movers[machine].Asks(w.sees[machine]) {
		w.letters = append(w.letters, moveAsk{machine: machine, ask: a})
	}
	for a := range txn.Asks(me, len(w.shards), w.shards[me-1].Pending()) {
		w.letters = append(w.letters, transferAsk{me: me, ask: a})
	}
}

// carry lets one letter arrive, be lost, or be there still.
func (w *world) carry() {
	if len(w.letters) == 0 {
		return
	}
	i := w.r.Intn(len(w.letters))
	x := w.letters[i]
	lost := w.r.Intn(6) == 0 && !mustCome(x)
	if lost || w.r.Intn(4) > 0 {
		w.letters = slices.Delete(w.letters, i, i+1)
	}
	if !lost {
		x.arrive(w)
	}
}

// look goes on with an audit, or lets one begin: what all shards told is what came less what went.
func (w *world) look() {
	n, phase := w.chart.Audit()
	if phase == chart.Idle {
		w.chart.Do(chart.Cmd{Kind: chart.CmdAudit})
		clear(w.rows)
		return
	}
	me := 1 + w.r.Intn(len(w.shards))
	if r := w.shards[me-1].Do(shard.Cmd{Kind: shard.CmdFreeze, Epoch: n}); r.Why == api.OK {
		w.rows[me] = r.Reply.Rows
	}
	if len(w.rows) < len(w.shards) {
		return
	}
	sum, times := int64(0), map[string]int{}
	for _, r := range slices.Concat(slices.Collect(maps.Values(w.rows))...) {
		sum += r.Amount
		if times[r.Name]++; times[r.Name] > 1 {
			w.t.Fatalf("an audit told %s twice", r.Name)
		}
	}
	if sum != w.came {
		w.t.Fatalf("an audit told %d; want %d", sum, w.came)
	}
	for _, s := range w.shards {
		s.Do(shard.Cmd{Kind: shard.CmdThaw, Epoch: n})
	}
	w.chart.Do(chart.Cmd{Kind: chart.CmdCut, N: n})
	w.chart.Do(chart.Cmd{Kind: chart.CmdThawed, N: n})
	w.ended["audited"]++
}

// restart lets a shard, or the chart, be written and read, or a machine forget.
func (w *world) restart() {
	i := w.r.Intn(len(w.shards))
	s, why := shard.Load(w.shards[i].Image())
	c, whyNot := chart.Load(w.chart.Image())
	if why != api.OK || whyNot != api.OK {
		w.t.Fatalf("Load: %d, %d", why, whyNot)
	}
	w.shards[i], w.chart = s, c
	w.movers[w.r.Intn(machines)] = New()
}

// wantWhole asks that all accounts are there once for who owns their slots, and that they and what is on its way have together what came less what went.
func (w *world) wantWhole() {
	sum, times := int64(0), map[string]int{}
	var copies []*shard.Shard
	for _, s := range w.shards {
		copies = append(copies, s.Copy())
	}
	for _, s := range copies {
		for _, x := range s.Pending() {
			if !x.Done {
				sum += x.N
			} else if x.Why == api.OK {
				// What is yet to be added, is added by this alone.
				copies[w.home(slotOf(x.To))-1].Do(shard.Cmd{Kind: shard.CmdFinish, Id: x.Id, Name: x.To})
			}
		}
	}
	for i, s := range copies {
		for _, r := range s.Rows() {
			if w.home(slotOf(r.Name)) == i+1 {
				sum += r.Amount
				times[r.Name]++
			}
		}
	}
	for _, k := range w.known {
		if k.op.Kind == api.Open && k.why == api.OK && times[k.op.From] != 1 {
			w.t.Fatalf("%s is there %d times", k.op.From, times[k.op.From])
		}
	}
	if sum != w.came {
		w.t.Fatalf("there is %d; want %d", sum, w.came)
	}
}

// settle lets all be asked, and all arrive, round by round, until nothing goes on.
func (w *world) settle() {
	for round := 1; ; round++ {
		if n, phase := w.chart.Audit(); phase != chart.Idle {
			for _, s := range w.shards {
				s.Do(shard.Cmd{Kind: shard.CmdThaw, Epoch: n})
			}
			w.chart.Do(chart.Cmd{Kind: chart.CmdCut, N: n})
			w.chart.Do(chart.Cmd{Kind: chart.CmdThawed, N: n})
		}
		for me := range w.shards {
			w.sees[0] = w.chart.Move()
			w.post(0, me+1)
		}
		for len(w.letters) > 0 {
			x := w.letters[0]
			w.letters = w.letters[1:]
			x.arrive(w)
			w.wantWhole()
		}
		busy := w.chart.Move() != (chart.Moving{})
		for _, s := range w.shards {
			busy = busy || s.Busy() != 0 || len(s.Pending()) != 0
		}
		if !busy {
			return
		}
		if round > 20 {
			w.t.Fatalf("%+v goes on, %v have strayed", w.chart.Move(), w.strayed())
		}
		if len(w.strayed()) > 0 {
			w.begin()
		}
	}
}

// wantAnswers asks that every account has what the answers say, where the chart says that it is.
func (w *world) wantAnswers() {
	has := map[string]int64{}
	for _, k := range w.known {
		if k.why != api.OK {
			continue
		}
		switch k.op.Kind {
		case api.Open:
			has[k.op.From] += 0
		case api.Deposit:
			has[k.op.From] += k.op.Amount
		case api.Withdraw:
			has[k.op.From] -= k.op.Amount
		case api.Transfer:
			has[k.op.From] -= k.op.Amount
			has[k.op.To] += k.op.Amount
		}
	}
	for i, s := range w.shards {
		for _, r := range s.Rows() {
			if n, is := has[r.Name]; !is || n != r.Amount || w.chart.Owner(slotOf(r.Name)) != i+1 {
				w.t.Fatalf("%s has %d at %d; want %d at %d", r.Name, r.Amount, i+1, n, w.chart.Owner(slotOf(r.Name)))
			}
			delete(has, r.Name)
		}
	}
	if len(has) > 0 {
		w.t.Fatalf("%v are nowhere", has)
	}
}

// P16.4, P15.4, P3, P4, P6: moves, transfers and audits, while what is on its way is lost, doubled and late, shards stop and start, and machines forget, or know an elder move: all accounts are there once at any time; when all arrives, all ends soon.
func TestMovesAndTransfers(t *testing.T) {
	ended := map[string]int{}
	for seed := range int64(300) {
		r := rand.New(rand.NewSource(seed))
		w := newWorld(t, r, 2+int(seed%2))
		for n := range 500 {
			switch what := r.Intn(16); {
			case what < 3 || n < 60:
				w.call(w.someCall(n))
			case what < 6:
				w.post(r.Intn(machines), 1+r.Intn(len(w.shards)))
			case what == 6:
				if r.Intn(3) == 0 {
					w.begin()
				}
			case what == 7:
				if _, phase := w.chart.Audit(); phase != chart.Idle || r.Intn(3) == 0 {
					w.look()
				}
			case what == 8:
				w.restart()
			case what == 9:
				w.sees[r.Intn(machines)] = w.chart.Move()
			default:
				w.carry()
			}
			w.wantWhole()
		}
		w.settle()
		w.wantAnswers()
		for what, n := range w.ended {
			ended[what] += n
		}
	}
	for _, what := range []string{"began", "decided 0", "decided 40", "decided 50", "moved", "audited", "a later piece"} {
		if ended[what] < 100 {
			t.Errorf("%s: %d times", what, ended[what])
		}
	}
}
