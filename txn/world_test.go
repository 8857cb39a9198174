package txn

import (
	"fmt"
	"math/rand"
	"slices"
	"testing"

	"almoner/api"
	"almoner/shard"
)

// world is shards that ask each other for their transfers; what is on its way may be lost, doubled and late.
type world struct {
	t       *testing.T
	r       *rand.Rand
	shards  []*shard.Shard
	letters []letter
	asked   []api.Op
	known   map[request]answered // all that was answered, but ErrRetry
	came    int64                // by Deposit, less what went by Withdraw, with OK, each key once
	audit   int64
	rows    map[int][]api.Row // that the shards have told of the audit
	ended   map[string]int
}

// letter is an ask on its way, or, with a result, an answer on its way back to the shard that asked.
type letter struct {
	me     int
	ask    []byte
	result []byte
}

// request is what an answer is kept for.
type request struct {
	from, key string
}

// answered is an operation, and what it was answered.
type answered struct {
	op  api.Op
	why api.Errno
}

func newWorld(t *testing.T, r *rand.Rand, shards int) *world {
	w := &world{t: t, r: r, known: map[request]answered{}, rows: map[int][]api.Row{}, ended: map[string]int{}}
	for me := 1; me <= shards; me++ {
		w.shards = append(w.shards, mustNew(t, me, shards))
	}
	return w
}

// hear learns what an operation was answered.
func (w *world) hear(o api.Op, why api.Errno) {
	is := request{o.From, o.Key}
	was, before := w.known[is]
	switch {
	case why == api.ErrRetry:
		return
	case before && was.why != why:
		w.t.Fatalf("%+v was answered %d, and now %d", o, was.why, why)
	case before:
		return
	}
	w.known[is] = answered{o, why}
	switch {
	case why == api.OK && o.Kind == api.Deposit:
		w.came += o.Amount
	case why == api.OK && o.Kind == api.Withdraw:
		w.came -= o.Amount
	}
}

// call asks the shard that has the account for an operation.
func (w *world) call(o api.Op) {
	r := w.shards[slotOf(o.From)%len(w.shards)].Do(op(o))
	if r.Wait {
		w.ended["began"]++
	}
	w.hear(o, r.Reply.Why)
}

// someCall is an operation with a small amount, often one that was asked before; at first accounts and money come.
func (w *world) someCall(n int) api.Op {
	if len(w.asked) > 0 && w.r.Intn(5) == 0 {
		return w.asked[w.r.Intn(len(w.asked))]
	}
	for {
		o := api.Op{
			Kind:   []int{api.Open, api.Deposit, api.Withdraw, api.Transfer, api.Transfer, api.Transfer, api.Transfer}[w.r.Intn(7)],
			From:   fmt.Sprint("n", w.r.Intn(9)),
			To:     fmt.Sprint("n", w.r.Intn(12)),
			Amount: 1 + w.r.Int63n(9),
			Key:    fmt.Sprint("k", n),
		}
		if n < 60 {
			o.Kind = api.Open + n%2
		}
		if o.From != o.To {
			w.asked = append(w.asked, o)
			return o
		}
	}
}

// post puts on its way what a shard asks.
func (w *world) post(me int) {
	for a := range Asks(me, len(w.shards), w.shards[me-1].Pending()) {
		b, why := Bytes(a)
		if why != api.OK {
			w.t.Fatalf("Bytes of %+v: %d", a, why)
		}
		w.letters = append(w.letters, letter{me: me, ask: b})
	}
}

// arrive lets a letter on its way arrive.
func (w *world) arrive(x letter) {
	a, why := Parse(x.ask)
	if why != api.OK {
		w.t.Fatalf("Parse of %x: %d", x.ask, why)
	}
	if x.result == nil {
		x.result, why = PutResult(w.shards[a.Group-1].Do(a.Cmd))
		if why != api.OK {
			w.t.Fatalf("PutResult: %d", why)
		}
		w.letters = append(w.letters, x)
		return
	}
	r, why := GetResult(x.result)
	if why != api.OK {
		w.t.Fatalf("GetResult of %x: %d", x.result, why)
	}
	if c, is := Next(a, r); is {
		w.follow(x.me, c)
	}
}

// follow lets a shard do what follows an answer.
func (w *world) follow(me int, c shard.Cmd) {
	s := w.shards[me-1]
	i := slices.IndexFunc(s.Pending(), func(x shard.Txn) bool { return x.Id == c.Id })
	if i < 0 {
		return
	}
	x := s.Pending()[i]
	if r := s.Do(c); c.Kind == shard.CmdDecide && r.Why == api.OK {
		w.ended[fmt.Sprint("decided ", r.Reply.Why)]++
		w.hear(transfer(x.From, x.To, x.N, x.Key), r.Reply.Why)
	}
}

// carry lets one letter arrive, be lost, or be there still.
func (w *world) carry() {
	if len(w.letters) == 0 {
		return
	}
	i := w.r.Intn(len(w.letters))
	x := w.letters[i]
	if w.r.Intn(4) > 0 {
		w.letters = slices.Delete(w.letters, i, i+1)
	}
	if w.r.Intn(5) > 0 {
		w.arrive(x)
	}
}

// look asks a shard for an audit, or ends the audit that all have told of: it is what came less what went.
func (w *world) look(n int64) {
	if w.audit == 0 {
		w.audit = n
		clear(w.rows)
	}
	me := 1 + w.r.Intn(len(w.shards))
	if r := w.shards[me-1].Do(freeze(w.audit)); r.Why == api.OK {
		w.rows[me] = r.Reply.Rows
	}
	if len(w.rows) < len(w.shards) {
		return
	}
	sum := int64(0)
	for _, rows := range w.rows {
		for _, r := range rows {
			sum += r.Amount
		}
	}
	if sum != w.came {
		w.t.Fatalf("an audit told %d; want %d", sum, w.came)
	}
	w.thaw()
	w.ended["audited"]++
}

// thaw ends an audit.
func (w *world) thaw() {
	for _, s := range w.shards {
		s.Do(thaw(max(1, w.audit)))
	}
	w.audit = 0
}

// restart lets a shard be written and read.
func (w *world) restart() {
	i := w.r.Intn(len(w.shards))
	s, why := shard.Load(w.shards[i].Image())
	if why != api.OK {
		w.t.Fatalf("Load: %d", why)
	}
	w.shards[i] = s
}

// round lets all be asked, and all that is on its way, the answers too, arrive.
func (w *world) round() {
	for me := range w.shards {
		w.post(me + 1)
	}
	for len(w.letters) > 0 {
		x := w.letters[0]
		w.letters = w.letters[1:]
		w.arrive(x)
	}
}

// wantEnd asks that nobody asks any more, that nothing is held, and that every account has what the answers say.
func (w *world) wantEnd() {
	has := map[string]int64{}
	for _, k := range w.known {
		if k.why != api.OK {
			continue
		}
		switch k.op.Kind {
		case api.Open:
			has[k.op.From] += 0
		case api.Deposit:
			has[k.op.From] += k.op.Amount
		case api.Withdraw:
			has[k.op.From] -= k.op.Amount
		case api.Transfer:
			has[k.op.From] -= k.op.Amount
			has[k.op.To] += k.op.Amount
		}
	}
	n := 0
	for i, s := range w.shards {
		if s.Busy() != 0 || len(s.Pending()) != 0 {
			w.t.Fatalf("the shard %d: Busy %d, Pending %+v", i+1, s.Busy(), s.Pending())
		}
		for _, r := range s.Rows() {
			n++
			if has[r.Name] != r.Amount {
				w.t.Fatalf("%s has %d; want %d", r.Name, r.Amount, has[r.Name])
			}
		}
	}
	if n != len(has) {
		w.t.Fatalf("%d accounts are there; want %d", n, len(has))
	}
}

// P15.4, P3, P4, P6: many transfers between shards that stop and start, while what is on its way is lost, doubled and late: each is done at both, or at none; when all arrives, nobody asks any more behind two rounds.
func TestManyTransfers(t *testing.T) {
	ended := map[string]int{}
	for seed := range int64(500) {
		r := rand.New(rand.NewSource(seed))
		w := newWorld(t, r, 1+int(seed%3))
		for n := range 400 {
			switch what := r.Intn(12); {
			case what < 3 || n < 60:
				w.call(w.someCall(n))
			case what < 5:
				w.post(1 + r.Intn(len(w.shards)))
			case what == 5:
				if w.audit != 0 || r.Intn(9) == 0 {
					w.look(int64(n + 1))
				}
			case what == 6:
				w.restart()
			default:
				w.carry()
			}
			if len(w.letters) > 30 {
				w.letters = w.letters[20:]
			}
		}
		w.round()
		w.round()
		w.thaw()
		w.wantEnd()
		for what, n := range w.ended {
			ended[what] += n
		}
	}
	for _, what := range []string{"began", "decided 0", "decided 40", "decided 50", "audited"} {
		if ended[what] < 100 {
			t.Errorf("%s: %d times", what, ended[what])
		}
	}
}
