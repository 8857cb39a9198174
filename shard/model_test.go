package shard

import (
	"bytes"
	"fmt"
	"math"
	"math/rand"
	"slices"
	"strings"
	"testing"

	"almoner/api"
	"almoner/book"
)

// plain is a shard as the lists of its image; goods is what has been told of slots, by its bytes.
type plain struct {
	draft
	goods map[string]goods
}

// goods is what moves with a slot.
type goods struct {
	slot     int
	accounts []holding
	kept     []answer
	done     []part
}

// plus is an amount and what is added to it, if that can be.
func plus(amount, n int64) int64 {
	if amount > math.MaxInt64-n {
		return amount
	}
	return amount + n
}

// account is an account's place; -1, if it is not there.
func (p *plain) account(name string) int {
	return slices.IndexFunc(p.accounts, func(a holding) bool { return a.name == name })
}

// by is who holds an account.
func (p *plain) by(name string) string {
	if i := p.account(name); i >= 0 {
		return p.accounts[i].by
	}
	return ""
}

// open tells whether a name's slot is its own, and not held back.
func (p *plain) open(name string) bool {
	return p.owns[slotOf(name)] && p.held[slotOf(name)] == 0
}

func (p *plain) keep(o api.Op, why api.Errno) Result {
	if o.Kind != api.Transfer {
		o.To = ""
	}
	if o.Kind == api.Open {
		o.Amount = 0
	}
	o.Slot, o.Shard = 0, 0
	p.kept = append(p.kept, answer{o, why})
	// A / is below all bytes of names, so that the order of From/Key is the one of From, then Key.
	slices.SortFunc(p.kept, func(a, b answer) int { return strings.Compare(a.op.From+"/"+a.op.Key, b.op.From+"/"+b.op.Key) })
	return Result{Reply: api.Reply{Why: why}}
}

// do is what is to come of a command.
func (p *plain) do(c Cmd) Result {
	switch c.Kind {
	case 1:
		return p.op(c.Op)
	case 2:
		return Result{Why: p.prepare(c)}
	case 3:
		return p.decide(c)
	case 4:
		return Result{Why: p.finish(c)}
	case 5:
		for i, t := range p.transfers {
			if t.Id == c.Id && t.Done {
				p.transfers = slices.Delete(p.transfers, i, i+1)
				return Result{}
			}
		}
		return Result{Why: api.ErrState}
	case 6:
		return p.freeze(c)
	case 7:
		if c.Epoch < 1 {
			return Result{Why: api.ErrArg}
		}
		if c.Epoch > p.over {
			p.over = c.Epoch
		}
		if p.frozen <= c.Epoch {
			p.frozen = 0
		}
		return Result{}
	case 8:
		return p.hold(c)
	case 9:
		return Result{Why: p.install(c)}
	case 10:
		return Result{Why: p.drop(c)}
	}
	return Result{Why: api.ErrArg}
}

func (p *plain) op(o api.Op) Result {
	retry := Result{Reply: api.Reply{Why: api.ErrRetry}}
	if why := book.Wrong(o); why != 0 {
		return Result{Reply: api.Reply{Why: why}}
	}
	if o.Kind >= api.Audit || !p.open(o.From) {
		return retry
	}
	from := p.account(o.From)
	if o.Kind == api.Balance {
		if p.by(o.From) != "" {
			return retry
		}
		if from < 0 {
			return Result{Reply: api.Reply{Why: api.ErrNone}}
		}
		return Result{Reply: api.Reply{Amount: p.accounts[from].amount}}
	}
	for _, k := range p.kept {
		if k.op.From != o.From || k.op.Key != o.Key {
			continue
		}
		if k.op.Kind != o.Kind || o.Kind == api.Transfer && k.op.To != o.To || o.Kind != api.Open && k.op.Amount != o.Amount {
			return Result{Reply: api.Reply{Why: api.ErrKey}}
		}
		return Result{Reply: api.Reply{Why: k.why}}
	}
	for _, t := range p.transfers {
		if t.From == o.From && t.Key == o.Key {
			return retry
		}
	}
	if p.frozen != 0 || p.by(o.From) != "" || len(p.kept)+len(p.transfers) >= 200 {
		return retry
	}
	return p.fresh(o, from)
}

// fresh is what is to come of an operation whose key is new.
func (p *plain) fresh(o api.Op, from int) Result {
	retry := Result{Reply: api.Reply{Why: api.ErrRetry}}
	to := p.account(o.To)
	switch {
	case o.Kind == api.Open && from >= 0:
		return p.keep(o, api.ErrTwice)
	case o.Kind == api.Open && len(p.accounts) >= 200:
		return retry
	case o.Kind == api.Open:
		p.add(holding{name: o.From})
		return p.keep(o, api.OK)
	case from < 0:
		return p.keep(o, api.ErrNone)
	case o.Kind == api.Deposit && p.accounts[from].amount > math.MaxInt64-o.Amount:
		return p.keep(o, api.ErrOver)
	case o.Kind == api.Deposit:
		p.accounts[from].amount += o.Amount
		return p.keep(o, api.OK)
	case p.accounts[from].amount < o.Amount:
		return p.keep(o, api.ErrFunds)
	case o.Kind == api.Withdraw:
		p.accounts[from].amount -= o.Amount
		return p.keep(o, api.OK)
	case p.owns[slotOf(o.To)] && (!p.open(o.To) || p.by(o.To) != ""):
		return retry
	case p.owns[slotOf(o.To)] && to < 0:
		return p.keep(o, api.ErrNone)
	case p.owns[slotOf(o.To)] && p.accounts[to].amount > math.MaxInt64-o.Amount:
		return p.keep(o, api.ErrOver)
	case p.owns[slotOf(o.To)]:
		p.accounts[from].amount -= o.Amount
		p.accounts[to].amount += o.Amount
		return p.keep(o, api.OK)
	case p.began == 1<<60:
		return retry
	}
	p.began++
	id := fmt.Sprintf("%s/%s/%d.%d", o.From, o.Key, p.me, p.began)
	p.accounts[from].amount -= o.Amount
	p.accounts[from].by = id
	p.transfers = append(p.transfers, Txn{Id: id, From: o.From, Key: o.Key, To: o.To, N: o.Amount})
	return Result{Wait: true, Reply: api.Reply{Why: api.ErrRetry}}
}

func (p *plain) add(a holding) {
	p.accounts = append(p.accounts, a)
	slices.SortFunc(p.accounts, func(a, b holding) int { return strings.Compare(a.name, b.name) })
}

func (p *plain) isDone(id string) bool {
	for _, d := range p.done {
		if d.id == id {
			return true
		}
	}
	return false
}

func (p *plain) prepare(c Cmd) api.Errno {
	at := p.account(c.Name)
	switch {
	case c.Id == "" || len(c.Id) > 80 || !book.Name(c.Name) || c.N < 1:
		return api.ErrArg
	case !p.open(c.Name) || p.isDone(c.Id):
		return api.ErrState
	case p.by(c.Name) == c.Id:
		return api.OK
	case p.frozen != 0 || p.by(c.Name) != "" || len(p.done)+len(p.prepared) >= 200:
		return api.ErrRetry
	case at < 0:
		return api.ErrNone
	case p.accounts[at].amount > math.MaxInt64-c.N:
		return api.ErrOver
	}
	p.accounts[at].by = c.Id
	p.prepared = append(p.prepared, awaited{part{c.Id, c.Name}, c.N})
	slices.SortFunc(p.prepared, func(a, b awaited) int {
		if a.id != b.id {
			return strings.Compare(a.id, b.id)
		}
		return strings.Compare(a.name, b.name)
	})
	return api.OK
}

func (p *plain) decide(c Cmd) Result {
	for i := range p.transfers {
		t := &p.transfers[i]
		if t.Id != c.Id {
			continue
		}
		if t.Done {
			break
		}
		t.Done, t.Why = true, c.Why
		if at := p.account(t.From); at >= 0 {
			if p.accounts[at].by == t.Id {
				p.accounts[at].by = ""
			}
			if c.Why != api.OK {
				p.accounts[at].amount = plus(p.accounts[at].amount, t.N)
			}
		}
		if c.Why == api.ErrRetry {
			return Result{Reply: api.Reply{Why: c.Why}}
		}
		return p.keep(transfer(t.From, t.To, t.N, t.Key), c.Why)
	}
	return Result{Why: api.ErrState}
}

func (p *plain) finish(c Cmd) api.Errno {
	switch at := p.account(c.Name); {
	case c.Id == "" || len(c.Id) > 80 || !book.Name(c.Name):
		return api.ErrArg
	case at >= 0 && p.accounts[at].by == c.Id:
		p.accounts[at].by = ""
		p.prepared = slices.DeleteFunc(p.prepared, func(a awaited) bool {
			mine := a.part == part{c.Id, c.Name}
			if mine && c.Why == api.OK {
				p.accounts[at].amount = plus(p.accounts[at].amount, a.n)
			}
			return mine
		})
	case p.isDone(c.Id):
		return api.OK
	case c.Why == api.OK, !p.open(c.Name), len(p.done)+len(p.prepared) >= 200:
		return api.ErrState
	}
	p.done = append(p.done, part{c.Id, c.Name})
	return api.OK
}

func (p *plain) freeze(c Cmd) Result {
	if c.Epoch <= p.over || c.Epoch < p.frozen {
		return Result{Why: api.ErrState}
	}
	p.frozen = c.Epoch
	for _, t := range p.transfers {
		if !t.Done {
			return Result{Why: api.ErrRetry}
		}
	}
	if len(p.prepared) > 0 {
		return Result{Why: api.ErrRetry}
	}
	return Result{Reply: api.Reply{Rows: p.rows()}}
}

func (p *plain) rows() []api.Row {
	var l []api.Row
	for _, a := range p.accounts {
		l = append(l, api.Row{Name: a.name, Amount: a.amount})
	}
	return l
}

// of is what a shard has of a slot, or has not: accounts, answers, done ones.
func (p *plain) of(slot int, is bool) ([]holding, []answer, []part) {
	var accounts []holding
	var kept []answer
	var done []part
	for _, a := range p.accounts {
		if (slotOf(a.name) == slot) == is {
			accounts = append(accounts, a)
		}
	}
	for _, k := range p.kept {
		if (slotOf(k.op.From) == slot) == is {
			kept = append(kept, k)
		}
	}
	for _, d := range p.done {
		if (slotOf(d.name) == slot) == is {
			done = append(done, d)
		}
	}
	return accounts, kept, done
}

func (p *plain) anyHeld(slot int) bool {
	accounts, _, _ := p.of(slot, true)
	return slices.ContainsFunc(accounts, func(a holding) bool { return a.by != "" })
}

func (p *plain) hold(c Cmd) Result {
	switch {
	case c.Slot < 0 || c.Slot > 15:
		return Result{Why: api.ErrArg}
	case !p.owns[c.Slot] || c.Epoch <= p.epoch[c.Slot]:
		return Result{Why: api.ErrState}
	}
	p.held[c.Slot] = c.Epoch
	if p.anyHeld(c.Slot) {
		return Result{Why: api.ErrRetry}
	}
	accounts, kept, done := p.of(c.Slot, true)
	data := moved(accounts, kept, done)
	p.goods[string(data)] = goods{c.Slot, slices.Clone(accounts), slices.Clone(kept), slices.Clone(done)}
	return Result{Data: data}
}

func (p *plain) install(c Cmd) api.Errno {
	switch {
	case c.Slot < 0 || c.Slot > 15 || c.At < 0:
		return api.ErrArg
	case c.Epoch <= p.epoch[c.Slot]:
		return api.OK
	case p.owns[c.Slot]:
		return api.ErrState
	}
	come := &p.come[c.Slot]
	if c.At == 0 {
		*come = arrival{epoch: c.Epoch}
	}
	switch {
	case come.epoch != c.Epoch || len(come.data) != c.At:
		return api.ErrState
	case c.At+len(c.Data) > 65536:
		return api.ErrSize
	}
	come.data = slices.Concat(come.data, c.Data)
	if !c.Last {
		return api.OK
	}
	x, is := p.goods[string(come.data)]
	empty := string(come.data) == "\x00\x00\x00" // of any slot
	*come = arrival{}
	if !empty && (!is || x.slot != c.Slot) {
		return api.ErrForm
	}
	if len(p.accounts)+len(x.accounts) > 200 || len(p.kept)+len(p.transfers)+len(x.kept) > 200 || len(p.done)+len(p.prepared)+len(x.done) > 200 {
		return api.ErrFull
	}
	for _, a := range x.accounts {
		p.add(a)
	}
	for _, k := range x.kept {
		p.keep(k.op, k.why)
	}
	p.done = append(p.done, x.done...)
	p.owns[c.Slot], p.epoch[c.Slot] = true, c.Epoch
	return api.OK
}

func (p *plain) drop(c Cmd) api.Errno {
	switch {
	case c.Slot < 0 || c.Slot > 15:
		return api.ErrArg
	case p.owns[c.Slot] && p.held[c.Slot] != 0 && p.held[c.Slot] == c.Epoch && !p.anyHeld(c.Slot):
		p.accounts, p.kept, p.done = p.of(c.Slot, false)
		p.owns[c.Slot], p.held[c.Slot], p.epoch[c.Slot] = false, 0, c.Epoch
		return api.OK
	case !p.owns[c.Slot] && p.epoch[c.Slot] >= c.Epoch:
		return api.OK
	}
	return api.ErrState
}

// stage is shards and what each is to be, and what came up on it.
type stage struct {
	shards []*Shard
	plains []*plain
	goods  map[string]goods
	ids    []string
}

func newStage(t *testing.T, shards int) *stage {
	t.Helper()
	g := &stage{goods: map[string]goods{}, ids: []string{"x", "y", "z", strings.Repeat("i", 80), strings.Repeat("i", 81), ""}}
	for me := 1; me <= shards; me++ {
		g.shards = append(g.shards, mustNew(t, me, shards))
		g.plains = append(g.plains, &plain{first(me, shards), g.goods})
	}
	return g
}

// wantPlain holds all that a shard tells against what it is to be.
func wantPlain(t *testing.T, s *Shard, p *plain) {
	t.Helper()
	if got, want := s.Image(), p.bytes(); !bytes.Equal(got, want) {
		t.Fatalf("Image %q; want %q", got, want)
	}
	busy := 0
	for _, a := range p.accounts {
		if a.by != "" {
			busy++
		}
	}
	for _, epoch := range p.held {
		if epoch != 0 {
			busy++
		}
	}
	if p.frozen != 0 {
		busy++
	}
	if s.Busy() != busy || s.Frozen() != p.frozen || !slices.Equal(s.Rows(), p.rows()) || !slices.Equal(s.Pending(), p.transfers) {
		t.Fatalf("Busy %d, want %d; Frozen %d, Rows %v, Pending %v", s.Busy(), busy, s.Frozen(), s.Rows(), s.Pending())
	}
	for n := range 6 {
		name := fmt.Sprint("n", n)
		if s.Owns(name) != p.owns[slotOf(name)] {
			t.Fatalf("Owns(%s): %v", name, s.Owns(name))
		}
	}
}

// some is any one of a list; the zero one, if it is empty.
func some[T any](r *rand.Rand, l ...T) T {
	var x T
	if len(l) > 0 {
		x = l[r.Intn(len(l))]
	}
	return x
}

// someCmd is a command to a shard that often does something.
func (g *stage) someCmd(r *rand.Rand, p *plain) Cmd {
	name := func() string { return fmt.Sprint("n", r.Intn(14)) }
	slot := slotOf(name())
	epoch := func() int64 { return p.epoch[slot] + int64(r.Intn(4)-1) }
	var pending Txn
	for _, other := range g.plains {
		pending = some(r, append(other.transfers, pending)...)
	}
	id, to, n := pending.Id, pending.To, pending.N
	if id == "" || r.Intn(5) == 0 {
		id, to, n = some(r, g.ids...), name(), some[int64](r, 1, 2, 0, math.MaxInt64-1, math.MaxInt64)
	}
	if a := some(r, p.prepared...); a.id != "" && r.Intn(3) == 0 {
		id, to, n = a.id, a.name, a.n
	}
	why := some(r, api.OK, api.OK, api.ErrNone, api.ErrOver, api.ErrRetry, 7)
	switch r.Intn(24) {
	case 0, 1:
		return prepare(id, to, n)
	case 2, 3:
		return decide(id, why)
	case 4, 5:
		return finish(id, to, why)
	case 6:
		return end(id)
	case 7:
		return freeze(p.over + int64(r.Intn(3)))
	case 8, 9:
		return thaw(p.frozen + int64(r.Intn(3)-1))
	case 10:
		return hold(slot, epoch())
	case 11, 12, 13:
		return g.someInstall(r, p)
	case 14, 15:
		slot = r.Intn(16)
		return drop(slot, some(r, p.held[slot], p.epoch[slot], epoch()))
	case 16:
		return someCommand(r)
	}
	o := someOp(r, 14, 40)
	// Most operations come to the shard that has the account.
	for range 6 {
		if p.open(o.From) || r.Intn(8) == 0 {
			break
		}
		o.From = name()
	}
	if r.Intn(3) == 0 {
		o.Kind, o.Amount = api.Transfer, 1
	}
	return op(o)
}

// someInstall is a piece of what was told of a slot, most often the one that is to come next.
func (g *stage) someInstall(r *rand.Rand, p *plain) Cmd {
	var all []string
	for data := range g.goods {
		all = append(all, data)
	}
	slices.Sort(all)
	data := some(r, all...)
	slot := g.goods[data].slot
	if r.Intn(12) == 0 {
		slot = r.Intn(18) - 1
	}
	if slot < 0 || slot > 15 {
		return install(slot, 1, 0, true, []byte(data))
	}
	c := install(slot, p.epoch[slot]+1, 0, false, nil)
	if come := p.come[slot]; len(come.data) > 0 && len(come.data) <= len(data) && r.Intn(4) > 0 {
		c.Epoch, c.At = come.epoch, len(come.data)
	}
	cut := c.At + r.Intn(len(data)+1-c.At)
	if r.Intn(2) == 0 {
		cut = len(data)
	}
	c.Data, c.Last = []byte(data[c.At:cut]), cut == len(data)
	switch r.Intn(20) {
	case 0:
		c.Last = !c.Last
	case 1:
		c.Epoch += int64(r.Intn(3) - 1)
	case 2:
		c.At += r.Intn(3) - 1
	}
	return c
}

// once tells whether commands of a kind, done twice, change no more than done once.
func once(kind int) bool {
	return slices.Contains([]int{CmdPrepare, CmdDecide, CmdFinish, CmdEnd, CmdFreeze, CmdThaw, CmdInstall, CmdDrop}, kind)
}

// P13.1-P13.3, P13.6, P13.7, P5, P7: scripts on some shards, held against plain lists: every result is right, and so is all that is left; what is done twice changes no more than done once; what was written and read goes on as it does.
func TestScripts(t *testing.T) {
	results := map[string]int{}
	for seed := range int64(100) {
		r := rand.New(rand.NewSource(seed))
		g := newStage(t, 1+r.Intn(3))
		for n := range 300 {
			i := r.Intn(len(g.shards))
			if n < 20 {
				i = slotOf(fmt.Sprint("n", n/2%10)) % len(g.shards)
			}
			s, p := g.shards[i], g.plains[i]
			c := g.someCmd(r, p)
			if n < 20 {
				c = op(api.Op{Kind: 1 + n%2, From: fmt.Sprint("n", n/2%10), Amount: 1 + r.Int63n(20), Key: fmt.Sprint("start", n)})
			}
			got, want := s.Do(c), p.do(c)
			if !same(got, want) {
				t.Fatalf("seed %d: Do %+v: %+v, want %+v", seed, c, got, want)
			}
			results[fmt.Sprint(c.Kind, " ", got.Why)]++
			if c.Kind == CmdOp {
				results[fmt.Sprint("op ", got.Reply.Why, " ", got.Wait)]++
			}
			wantPlain(t, s, p)
			if once(c.Kind) {
				again := s.Copy()
				again.Do(c)
				if !bytes.Equal(again.Image(), s.Image()) {
					t.Fatalf("seed %d: %+v, done again, changed %q to %q", seed, c, s.Image(), again.Image())
				}
			}
			switch r.Intn(12) {
			case 0:
				g.shards[i] = s.Copy()
			case 1:
				var why api.Errno
				if g.shards[i], why = Load(s.Image()); why != api.OK {
					t.Fatalf("seed %d: Load of %q: %d", seed, s.Image(), why)
				}
			}
		}
	}
	for _, what := range strings.Split("2 0,2 1,2 5,2 50,2 40,2 43,3 0,3 5,4 0,4 1,4 5,5 0,5 5,6 0,6 5,6 50,7 0,7 1,8 0,8 5,8 50,9 0,9 1,9 5,9 11,10 0,10 5,op 0 false,op 50 true,op 50 false,op 45 false,op 42 false,op 41 false,op 40 false", ",") {
		if results[what] < 20 {
			t.Errorf("%s: %d times", what, results[what])
		}
	}
}
