package auditor

import (
	"fmt"
	"math/rand"
	"slices"
	"testing"

	"almoner/api"
	"almoner/chart"
	"almoner/mover"
	"almoner/shard"
	"almoner/txn"
)

// machines is how many have an auditor.
const machines = 3

// world is shards, a chart, and machines that drive its audits and the shards' transfers; what is on its way may be lost, doubled and late.
type world struct {
	t        *testing.T
	r        *rand.Rand
	shards   []*shard.Shard
	chart    *chart.Chart
	auditors [machines]*Auditor
	sees     [machines]view // the audit as a machine knows it: it may be an elder one
	letters  []letter
	asked    []api.Op
	known    map[request]api.Errno    // all that was answered, but ErrRetry
	came     int64                    // by Deposit, less what went by Withdraw, with OK, each key once
	times    map[int64]map[string]int // of each audit, what all accounts had from when it began until it was cut
	rows     map[int64]string         // what was told of an audit, the first time
	ended    map[string]int
}

// letter is something on its way.
type letter interface{ arrive(w *world) }

// transferAsk is an ask of a shard for its transfers, and what it was answered.
type transferAsk struct {
	me     int
	ask    txn.Ask
	result *shard.Result
}

// auditAsk is an ask of a machine for the audit, and what it was answered.
type auditAsk struct {
	machine int
	ask     txn.Ask
	result  *shard.Result
}

// moveAsk is an ask for a move that is over, doubled: nobody waits for its answer.
type moveAsk struct{ ask txn.Ask }

// auditStep is a command on its way to the chart.
type auditStep struct{ cmd chart.Cmd }

// request is what an answer is kept for.
type request struct{ from, key string }

func newWorld(t *testing.T, r *rand.Rand, shards int) *world {
	w := &world{t: t, r: r, chart: mustChart(t, shards), known: map[request]api.Errno{}, times: map[int64]map[string]int{}, rows: map[int64]string{}, ended: map[string]int{}}
	for i := range w.auditors {
		w.auditors[i] = New(shards)
	}
	for me := 1; me <= shards; me++ {
		w.shards = append(w.shards, mustShard(t, me, shards))
	}
	return w
}

// wired is a result as it comes back, written and read.
func (w *world) wired(a txn.Ask) *shard.Result {
	b, why := txn.Bytes(a)
	a, whyNot := txn.Parse(b)
	if why != api.OK || whyNot != api.OK {
		w.t.Fatalf("%+v: Bytes %d, Parse %d", a, why, whyNot)
	}
	b, why = txn.PutResult(w.shards[a.Group-1].Do(a.Cmd))
	r, whyNot := txn.GetResult(b)
	if why != api.OK || whyNot != api.OK {
		w.t.Fatalf("%+v: PutResult %d, GetResult %d", a, why, whyNot)
	}
	return &r
}

func (x transferAsk) arrive(w *world) {
	if x.result == nil {
		x.result = w.wired(x.ask)
		w.letters = append(w.letters, x)
		return
	}
	c, is := txn.Next(x.ask, *x.result)
	if !is {
		return
	}
	s := w.shards[x.me-1]
	i := slices.IndexFunc(s.Pending(), func(p shard.Txn) bool { return p.Id == c.Id })
	if i < 0 {
		return
	}
	p := s.Pending()[i]
	if r := s.Do(c); c.Kind == shard.CmdDecide && r.Why == api.OK {
		w.ended[fmt.Sprint("decided ", r.Reply.Why)]++
		w.hear(transfer(p.From, p.To, p.N, p.Key), r.Reply.Why)
	}
}

func (x auditAsk) arrive(w *world) {
	if x.result == nil {
		x.result = w.wired(x.ask)
		w.letters = append(w.letters, x)
		return
	}
	v, a := w.sees[x.machine], w.auditors[x.machine]
	if c, is := a.Told(v.n, v.phase, x.ask, *x.result); is {
		w.letters = append(w.letters, auditStep{c})
	}
	w.wantAtOneTime(a)
}

func (x moveAsk) arrive(w *world) {
	w.wired(x.ask)
}

func (x auditStep) arrive(w *world) {
	if doStep(w.t, w.chart, w.shards, x.cmd) {
		w.ended[fmt.Sprint("step ", x.cmd.Kind)]++
	}
}

// hear learns what an operation was answered.
func (w *world) hear(o api.Op, why api.Errno) {
	is := request{o.From, o.Key}
	was, before := w.known[is]
	switch {
	case why == api.ErrRetry:
		return
	case before && was != why:
		w.t.Fatalf("%+v was answered %d, and now %d", o, was, why)
	case before:
		return
	}
	w.known[is] = why
	switch {
	case why == api.OK && o.Kind == api.Deposit:
		w.came += o.Amount
	case why == api.OK && o.Kind == api.Withdraw:
		w.came -= o.Amount
	}
}

// call asks the shard that has the account for an operation.
func (w *world) call(o api.Op) {
	r := w.shards[w.chart.Owner(slotOf(o.From))-1].Do(op(o))
	if r.Wait {
		w.ended["began"]++
	}
	w.hear(o, r.Reply.Why)
}

// someCall is an operation with a small amount, often one that was asked before; at first accounts and money come.
func (w *world) someCall(n int) api.Op {
	if len(w.asked) > 0 && w.r.Intn(5) == 0 {
		return oneOf(w.r, w.asked...)
	}
	from := w.r.Intn(9)
	o := api.Op{
		Kind:   oneOf(w.r, api.Open, api.Deposit, api.Withdraw, api.Transfer, api.Transfer, api.Transfer, api.Transfer),
		From:   fmt.Sprint("n", from),
		To:     fmt.Sprint("n", (from+1+w.r.Intn(9))%10), // n9 is opened by nobody
		Amount: 1 + w.r.Int63n(9),
		Key:    fmt.Sprint("k", n),
	}
	if n < 40 {
		o.Kind = api.Open + n%2
	}
	w.asked = append(w.asked, o)
	return o
}

// begin lets an audit begin, if nothing is there.
func (w *world) begin() {
	if r := w.chart.Do(chart.Cmd{Kind: chart.CmdAudit}); r.Wait {
		w.times[r.N] = map[string]int{}
	}
}

// move moves a slot whole, if nothing is there and no transfer on its way; what was asked for it may arrive again, much later.
func (w *world) move() {
	for _, s := range w.shards {
		if len(s.Pending()) > 0 || s.Busy() > 0 {
			return
		}
	}
	slot := slotOf(fmt.Sprint("n", w.r.Intn(9)))
	w.chart.Do(chart.Cmd{Kind: chart.CmdMove, Slot: slot, Shard: 1 + w.r.Intn(len(w.shards))})
	m := mover.New()
	for round := 0; w.chart.Move().Phase != chart.Idle; round++ {
		if round == 50 {
			w.t.Fatalf("%+v goes on moving", w.chart.Move())
		}
		x := w.chart.Move()
		for a := range m.Asks(x) {
			w.letters = append(w.letters, moveAsk{a})
			if c, is := m.Told(x, a, *w.wired(a)); is && w.chart.Do(c).Why == api.OK {
				w.ended["moved on"]++
			}
		}
	}
}

// post puts on its way what a machine asks for the audit, and what a shard asks for its transfers.
func (w *world) post(machine, me int) {
	for a := range w.auditors[machine].Asks(w.sees[machine].n, w.sees[machine].phase) {
		w.letters = append(w.letters, auditAsk{machine: machine, ask: a})
	}
	for a := range txn.Asks(me, len(w.shards), w.shards[me-1].Pending()) {
		w.letters = append(w.letters, transferAsk{me: me, ask: a})
	}
}

// carry lets one letter arrive, be lost, or be there still.
func (w *world) carry() {
	if len(w.letters) == 0 {
		return
	}
	i := w.r.Intn(len(w.letters))
	x := w.letters[i]
	if w.r.Intn(4) > 0 {
		w.letters = slices.Delete(w.letters, i, i+1)
	}
	if w.r.Intn(6) > 0 {
		x.arrive(w)
	}
}

// look lets a machine know the audit as it is now.
func (w *world) look(machine int) {
	n, phase := w.chart.Audit()
	w.sees[machine] = view{n, phase}
}

// restart lets a shard, and the chart, be written and read, or a machine forget.
func (w *world) restart() {
	i := w.r.Intn(len(w.shards))
	s, why := shard.Load(w.shards[i].Image())
	c, whyNot := chart.Load(w.chart.Image())
	if why != api.OK || whyNot != api.OK {
		w.t.Fatalf("Load: %d, %d", why, whyNot)
	}
	w.shards[i], w.chart = s, c
	w.auditors[w.r.Intn(machines)] = New(len(w.shards))
}

// has is what all accounts have together: a transfer that is decided is done, one that is not has not begun.
func (w *world) has() []api.Row {
	back := map[string]int64{}
	var copies []*shard.Shard
	for _, s := range w.shards {
		copies = append(copies, s.Copy())
	}
	for _, s := range copies {
		for _, x := range s.Pending() {
			if !x.Done {
				back[x.From] += x.N
			} else if x.Why == api.OK {
				copies[w.chart.Owner(slotOf(x.To))-1].Do(shard.Cmd{Kind: shard.CmdFinish, Id: x.Id, Name: x.To})
			}
		}
	}
	var rows []api.Row
	for _, s := range copies {
		rows = append(rows, s.Rows()...)
	}
	for i := range rows {
		rows[i].Amount += back[rows[i].Name]
	}
	return rows
}

// note puts what all accounts have now among the times of the audit, if it is not cut yet.
func (w *world) note() {
	rows := w.has()
	if sum := sumOf(rows); sum != w.came {
		w.t.Fatalf("there is %d; want %d", sum, w.came)
	}
	if n, phase := w.chart.Audit(); phase == chart.Collect {
		w.times[n][textOf(rows)]++
	}
}

func sumOf(rows []api.Row) int64 {
	sum := int64(0)
	for _, r := range rows {
		sum += r.Amount
	}
	return sum
}

// wantAtOneTime asks that what an auditor tells, if it does, is what all accounts had at one time of that audit, that all auditors tell the same, and that the names rise.
func (w *world) wantAtOneTime(a *Auditor) {
	rows, is := a.Rows()
	if !is {
		return
	}
	text := textOf(rows)
	if w.times[a.n][text] == 0 {
		w.t.Fatalf("the audit %d told %q; there was %v", a.n, text, w.times[a.n])
	}
	if was, before := w.rows[a.n]; before && was != text {
		w.t.Fatalf("the audit %d told %q, and now %q", a.n, was, text)
	}
	w.rows[a.n] = text
	for i := 1; i < len(rows); i++ {
		if rows[i-1].Name >= rows[i].Name {
			w.t.Fatalf("the audit %d told %+v", a.n, rows)
		}
	}
}

// busy tells whether anything goes on.
func (w *world) busy() bool {
	for _, s := range w.shards {
		if s.Busy() != 0 || len(s.Pending()) != 0 {
			return true
		}
	}
	_, phase := w.chart.Audit()
	return phase != chart.Idle
}

// settle lets all be asked by one machine, which begins again, and all arrive, round by round, until nothing goes on.
func (w *world) settle() {
	w.auditors[0] = New(len(w.shards))
	for round := 0; w.busy(); round++ {
		if round == 8 {
			n, phase := w.chart.Audit()
			w.t.Fatalf("it goes on: the audit %d in %d", n, phase)
		}
		w.look(0)
		for me := range w.shards {
			w.post(0, me+1)
		}
		for len(w.letters) > 0 {
			x := w.letters[0]
			w.letters = w.letters[1:]
			x.arrive(w)
			w.note()
		}
	}
}

// wantAudit asks that an audit, when nothing else goes on, tells what there is, and that all goes on behind it.
func (w *world) wantAudit() {
	w.begin()
	n, _ := w.chart.Audit()
	w.note()
	w.settle()
	if want := textOf(w.has()); w.rows[n] != want {
		w.t.Fatalf("the audit %d told %q; want %q", n, w.rows[n], want)
	}
	for i := range 9 {
		o := deposit(fmt.Sprint("n", i), 1, "in_the_end")
		why := w.shards[w.chart.Owner(slotOf(o.From))-1].Do(op(o)).Reply.Why
		if why != api.OK && why != api.ErrNone {
			w.t.Fatalf("%s is told %d", o.From, why)
		}
	}
}

// P17.4, P4, P6: audits, while operations and transfers go on, slots move between them, what is on its way is lost, doubled and late, shards stop and start, and machines forget, or know an elder audit: what is told is what all accounts had at one time; when all arrives, all ends soon.
func TestManyAudits(t *testing.T) {
	t.Parallel()
	ended := map[string]int{}
	for seed := range int64(300) {
		r := rand.New(rand.NewSource(seed))
		w := newWorld(t, r, 1+int(seed%3))
		for n := range 800 {
			switch what := r.Intn(20); {
			case what < 3 || n < 40:
				w.call(w.someCall(n))
			case what < 6:
				w.post(r.Intn(machines), 1+r.Intn(len(w.shards)))
			case what == 6 && r.Intn(4) == 0:
				w.begin()
			case what == 7 && r.Intn(2) == 0:
				w.restart()
			case what < 9:
				w.look(r.Intn(machines))
			case what == 9:
				w.move()
			default:
				w.carry()
			}
			w.note()
			if len(w.letters) > 60 {
				w.letters = w.letters[20:]
			}
		}
		w.settle()
		w.wantAudit()
		for what, n := range w.ended {
			ended[what] += n
		}
		for n := range w.rows {
			ended["told"]++
			if len(w.times[n]) > 1 {
				ended["told of several times"]++
			}
		}
	}
	for _, what := range []string{"began", "decided 0", "decided 40", "decided 50", "moved on", "step 4", "step 5", "told", "told of several times"} {
		if ended[what] < 100 {
			t.Errorf("%s: %d times", what, ended[what])
		}
	}
}
