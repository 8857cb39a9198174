package shard

import (
	"fmt"
	"maps"
	"math/rand"
	"slices"
	"testing"

	"almoner/api"
)

// world is shards that send each other their transfers' asks, and a slot that moves, and an audit; what is on its way may be lost, doubled and late.
type world struct {
	t       *testing.T
	r       *rand.Rand
	shards  []*Shard
	asks    []ask
	answers []func()
	came    int64 // by Deposit, less what went by Withdraw, with OK, each key once
	known   map[request]api.Errno
	open    map[request]api.Op // transfers that began, and have no answer yet
	move    moving
	audit   int64
	rows    map[int][]api.Row
	ended   map[string]int
}

// ask is a command on its way to a shard, and what is to be done with what that answers.
type ask struct {
	to   int
	c    Cmd
	then func(r Result)
}

// moving is a slot that moves: 1 it is held back, 2 it comes, 3 it is dropped.
type moving struct {
	slot, from, to, phase int
	epoch                 int64
	data                  []byte
	at                    int
}

func newWorld(t *testing.T, r *rand.Rand, shards int) *world {
	w := &world{t: t, r: r, known: map[request]api.Errno{}, open: map[request]api.Op{}, rows: map[int][]api.Row{}, ended: map[string]int{}}
	for me := 1; me <= shards; me++ {
		w.shards = append(w.shards, mustNew(t, me, shards))
	}
	return w
}

// send puts a command on its way.
func (w *world) send(to int, c Cmd, then func(r Result)) {
	w.asks = append(w.asks, ask{to, c, then})
}

// arrive lets a command on its way arrive, or be lost; it may arrive again.
func (w *world) arrive(lossy bool) {
	if len(w.asks) == 0 {
		return
	}
	i := w.r.Intn(len(w.asks))
	a := w.asks[i]
	if !lossy || w.r.Intn(4) > 0 {
		w.asks = slices.Delete(w.asks, i, i+1)
	}
	if lossy && w.r.Intn(5) == 0 {
		return
	}
	got := w.shards[a.to-1].Do(a.c)
	// What a Prepare is answered comes late, but comes: it is answered no more once the slot is held back, which waits for the account to be free.
	if !lossy || a.c.Kind == CmdPrepare || w.r.Intn(5) > 0 {
		w.answers = append(w.answers, func() { a.then(got) })
	}
}

// learn lets what was answered arrive; it may arrive again.
func (w *world) learn(lossy bool) {
	if len(w.answers) == 0 {
		return
	}
	i := w.r.Intn(len(w.answers))
	w.answers[i]()
	if !lossy || w.r.Intn(4) > 0 {
		w.answers = slices.Delete(w.answers, i, i+1)
	}
}

// nudge asks for all transfers of a shard. It asks itself, too: the slot of an account that it sends to may have come to it.
func (w *world) nudge(me int) {
	s := w.shards[me-1]
	for _, x := range s.Pending() {
		for to := range w.shards {
			if !x.Done {
				w.send(to+1, prepare(x.Id, x.To, x.N), func(r Result) {
					if r.Why != api.ErrState && r.Why != api.ErrArg {
						w.decided(s.Do(decide(x.Id, r.Why)), x)
					}
				})
				continue
			}
			why := api.OK
			if x.Why != api.OK {
				why = api.ErrRetry
			}
			w.send(to+1, finish(x.Id, x.To, why), func(r Result) {
				if r.Why == api.OK {
					s.Do(end(x.Id))
				}
			})
		}
	}
}

// decided learns what a transfer was answered.
func (w *world) decided(r Result, x Txn) {
	if r.Why != api.OK {
		return
	}
	w.ended[fmt.Sprint("decided ", r.Reply.Why)]++
	delete(w.open, request{x.From, x.Key})
	if r.Reply.Why != api.ErrRetry {
		w.known[request{x.From, x.Key}] = r.Reply.Why
	}
}

// call asks a shard for an operation, whoever has the account.
func (w *world) call(me int, o api.Op) {
	r := w.shards[me-1].Do(op(o))
	if r.Reply.Why == api.ErrRetry || r.Why != api.OK || o.Kind >= api.Balance {
		if r.Wait {
			w.open[asked(o)] = o
			w.ended["began"]++
		}
		return
	}
	was, is := w.known[asked(o)]
	if is && was != r.Reply.Why && r.Reply.Why != api.ErrKey {
		w.t.Fatalf("%+v was answered %d, and now %d", o, was, r.Reply.Why)
	}
	if is || r.Reply.Why == api.ErrKey {
		return
	}
	w.known[asked(o)] = r.Reply.Why
	switch {
	case r.Reply.Why == api.OK && o.Kind == api.Deposit:
		w.came += o.Amount
	case r.Reply.Why == api.OK && o.Kind == api.Withdraw:
		w.came -= o.Amount
	}
}

// owner is the shard that has a slot's accounts: the elder one keeps them, held back, until it is told to drop them.
func (w *world) owner(slot int) int {
	last, epoch := 0, int64(-1)
	for i, s := range w.shards {
		if x := s.slots[slot]; x.owns && x.epoch > epoch {
			last, epoch = i+1, x.epoch
		}
	}
	return last
}

// drive goes on with the slot that moves, or lets one move.
func (w *world) drive() {
	m := &w.move
	switch m.phase {
	case 0:
		if slot := w.r.Intn(16); len(w.shards) > 1 && w.audit == 0 {
			from := w.owner(slot)
			*m = moving{slot: slot, from: from, to: 1 + w.r.Intn(len(w.shards)), phase: 1, epoch: w.shards[from-1].slots[slot].epoch + 1}
			if m.from == m.to {
				m.phase = 0
			}
		}
	case 1:
		w.send(m.from, hold(m.slot, m.epoch), w.held(*m))
	case 2:
		cut := min(m.at+1+w.r.Intn(60), len(m.data))
		w.send(m.to, install(m.slot, m.epoch, m.at, cut == len(m.data), m.data[m.at:cut]), w.installed(*m, cut))
	case 3:
		w.send(m.from, drop(m.slot, m.epoch), w.dropped(*m))
	}
}

// same tells whether a move is still the one that something was asked for.
func (w *world) same(m moving) bool {
	return w.move.phase == m.phase && w.move.slot == m.slot && w.move.epoch == m.epoch && w.move.at == m.at
}

func (w *world) held(m moving) func(r Result) {
	return func(r Result) {
		if w.same(m) && r.Why == api.OK {
			w.move.data, w.move.phase = r.Data, 2
		}
	}
}

func (w *world) installed(m moving, cut int) func(r Result) {
	return func(r Result) {
		switch {
		case !w.same(m):
		case r.Why == api.OK && cut == len(m.data):
			w.move.phase = 3
		case r.Why == api.OK:
			w.move.at = cut
		default:
			w.move.at = 0
		}
	}
}

func (w *world) dropped(m moving) func(r Result) {
	return func(r Result) {
		if w.same(m) && r.Why == api.OK {
			w.move = moving{}
			w.ended["moved"]++
		}
	}
}

// look goes on with the audit, or lets one begin.
func (w *world) look(n int64) {
	if w.audit == 0 {
		if w.move.phase == 0 {
			w.audit = n
			clear(w.rows)
		}
		return
	}
	n = w.audit
	for me := 1; me <= len(w.shards); me++ {
		w.send(me, freeze(n), func(r Result) {
			if r.Why == api.OK && w.audit == n {
				w.rows[me] = r.Reply.Rows
				w.cut()
			}
		})
	}
}

// cut ends an audit that all shards have answered: the sum is what came less what went.
func (w *world) cut() {
	if len(w.rows) < len(w.shards) {
		return
	}
	sum, names := int64(0), map[string]int{}
	for _, rows := range w.rows {
		for _, r := range rows {
			sum += r.Amount
			names[r.Name]++
		}
	}
	for name, times := range names {
		if times != 1 {
			w.t.Fatalf("%s is there %d times", name, times)
		}
	}
	if sum != w.came {
		w.t.Fatalf("an audit told %d; want %d", sum, w.came)
	}
	for me := 1; me <= len(w.shards); me++ {
		// A thaw that is lost would be asked for again.
		for w.shards[me-1].Do(thaw(w.audit)).Why != api.OK {
		}
	}
	w.ended["audited"]++
	w.audit = 0
}

// wantSum asks that nothing is lost: what accounts have, each where its slot is, with what is on its way, is what came less what went.
func (w *world) wantSum() {
	w.t.Helper()
	sum := int64(0)
	for me, s := range w.shards {
		for _, r := range s.Rows() {
			if w.owner(slotOf(r.Name)) == me+1 {
				sum += r.Amount
			}
		}
		for _, x := range s.transfers {
			if !x.Done || x.Why == api.OK && w.awaits(x) {
				sum += x.N
			}
		}
	}
	if sum != w.came {
		w.t.Fatalf("there is %d; want %d", sum, w.came)
	}
}

// awaits tells whether a transfer is prepared somewhere, and not finished.
func (w *world) awaits(x Txn) bool {
	return slices.ContainsFunc(w.shards, func(s *Shard) bool { return s.prepared[part{x.Id, x.To}] != 0 })
}

// restart lets a shard be written and read.
func (w *world) restart() {
	i := w.r.Intn(len(w.shards))
	s, why := Load(w.shards[i].Image())
	if why != api.OK {
		w.t.Fatalf("Load: %d", why)
	}
	// Its asks know it by its place, so that it is replaced where it stands.
	*w.shards[i] = *s
}

// settle lets all that is on its way arrive, and all that has begun end.
func (w *world) settle() {
	for range 400 {
		for range w.shards {
			w.nudge(1 + w.r.Intn(len(w.shards)))
		}
		if w.move.phase != 0 {
			w.drive()
		}
		if w.audit != 0 {
			w.look(0)
		}
		for len(w.asks)+len(w.answers) > 0 {
			w.arrive(false)
			w.learn(false)
			w.wantSum()
		}
	}
	for _, s := range w.shards {
		if s.Busy() != 0 || len(s.Pending()) != 0 {
			w.t.Fatalf("Busy %d, Pending %v", s.Busy(), s.Pending())
		}
	}
}

// P13.5, P13.4, P2, P3, P4: transfers, moves and audits between shards, while what is on its way is lost, doubled and late: nothing is lost at any time; in the end every account has what the answers say.
func TestNothingIsLost(t *testing.T) {
	ended := map[string]int{}
	for seed := range int64(600) {
		r := rand.New(rand.NewSource(seed))
		w := newWorld(t, r, 1+int(seed%3))
		for n := range 400 {
			switch r.Intn(12) {
			case 0, 1, 2:
				w.call(1+r.Intn(len(w.shards)), w.someCall(n))
			case 3:
				w.nudge(1 + r.Intn(len(w.shards)))
			case 4:
				w.drive()
			case 5:
				if w.audit != 0 || r.Intn(5) == 0 {
					w.look(int64(n + 1))
				}
			case 6:
				w.restart()
			case 7:
				w.learn(true)
			default:
				w.arrive(true)
			}
			w.wantSum()
		}
		w.settle()
		w.wantAnswers()
		for what, n := range w.ended {
			ended[what] += n
		}
	}
	for _, what := range []string{"began", "decided 0", "decided 40", "decided 50", "moved", "audited"} {
		if ended[what] < 20 {
			t.Errorf("%s: %d times", what, ended[what])
		}
	}
}

// someCall is an operation with a small amount, so that sums can be counted.
func (w *world) someCall(n int) api.Op {
	o := api.Op{
		Kind:   some(w.r, 1, 1, 2, 2, 3, 4, 4, 4),
		From:   fmt.Sprint("n", w.r.Intn(8)),
		To:     fmt.Sprint("n", w.r.Intn(8)),
		Amount: 1 + w.r.Int63n(9),
		Key:    fmt.Sprint("k", n),
	}
	if n < 100 {
		o.Kind = 1 + n%2
	}
	for o.To == o.From {
		o.To = fmt.Sprint("n", w.r.Intn(8))
	}
	if was := slices.SortedFunc(maps.Values(w.open), compareOps); len(was) > 0 && w.r.Intn(4) == 0 {
		return some(w.r, was...)
	}
	return o
}

func compareOps(a, b api.Op) int {
	return compareAnswers(answer{op: a}, answer{op: b})
}

// wantAnswers asks that every account has what the kept answers say, with all transfers done at both sides or at none.
func (w *world) wantAnswers() {
	has, times := map[string]int64{}, map[string]int{}
	for _, s := range w.shards {
		for _, k := range s.kept {
			if w.known[asked(k.op)] != k.why {
				w.t.Fatalf("%+v is kept as %d, and was answered %d", k.op, k.why, w.known[asked(k.op)])
			}
			if k.why != api.OK {
				continue
			}
			switch k.op.Kind {
			case api.Deposit:
				has[k.op.From] += k.op.Amount
			case api.Withdraw:
				has[k.op.From] -= k.op.Amount
			case api.Transfer:
				has[k.op.From] -= k.op.Amount
				has[k.op.To] += k.op.Amount
			}
		}
	}
	for me, s := range w.shards {
		for _, r := range s.Rows() {
			if has[r.Name] != r.Amount || w.owner(slotOf(r.Name)) != me+1 {
				w.t.Fatalf("%s has %d at %d; want %d at %d", r.Name, r.Amount, me+1, has[r.Name], w.owner(slotOf(r.Name)))
			}
			if times[r.Name]++; times[r.Name] > 1 {
				w.t.Fatalf("%s is there twice", r.Name)
			}
		}
	}
}
