package cluster

import (
	"flag"
	"fmt"
	"math/rand"
	"slices"
	"testing"

	"almoner/api"
)

var (
	scripts = flag.Int("scripts", 100, "how many scripts of each kind are tried")
	first   = flag.Int64("first", 0, "the first script's seed")
)

// keyed is an operation on few accounts, of few keys; some ask for another one again.
func (p *play) keyed() (api.Op, bool) {
	if p.counting() >= 16 { // the order of many is long to be found
		return api.Op{}, false
	}
	if p.r.Intn(3) == 0 {
		return p.calls[len(p.calls)-1-p.r.Intn(min(len(p.calls), 6))].op, true
	}
	from, to := p.two()
	o := api.Op{From: from, Key: fmt.Sprint("k", p.r.Intn(8)), Amount: 1 + p.r.Int63n(5)}
	switch p.r.Intn(16) {
	case 0:
		o.Kind = api.Open
	case 1:
		o.Kind = api.Deposit
	case 2:
		o.Kind = api.Withdraw
	case 3, 4:
		o = api.Op{Kind: api.Balance, From: from}
	case 5:
		o = api.Op{Kind: api.Audit}
	case 6, 7, 8, 9:
		o = p.move()
	default:
		o.Kind, o.To = api.Transfer, to
	}
	return o, true
}

// P20.3, P2, P3, P4, P5, P6: whatever the script, what was told is as if one operation was done after another; and all is answered, once all work again.
func TestAsOneAfterAnother(t *testing.T) {
	seen := map[[2]int]int{}
	for seed := *first; seed < *first+int64(*scripts); seed++ {
		r := rand.New(rand.NewSource(seed))
		p := newPlay(t, seed, 1+r.Intn(5), 1+r.Intn(3), []int{64, 128, 256, 512}[r.Intn(4)])
		p.begin(names[:3+r.Intn(2)], 10)
		for range 100 + r.Intn(300) {
			p.step(p.keyed)
		}
		p.recover()
		p.ask(api.Op{Kind: api.Audit})
		if !inOrder(p.calls) {
			p.fail("there is no order of what was told")
		}
		for _, e := range p.calls {
			seen[[2]int{e.op.Kind, int(e.reply.Why)}]++
		}
	}
	t.Log("kinds, and what was told of them:", seen)
}

// P20.3, P3, P4, P6 (once): whatever the script, each audit has all accounts, and all that was put in; and what was answered is answered the same again, and was done once.
func TestOnce(t *testing.T) {
	many := []string{"ann", "bob", "cy", "dora", "eve", "fay", "gus", "hal"}
	audits, transfers := 0, 0
	for seed := *first; seed < *first+int64(*scripts)/5; seed++ {
		r := rand.New(rand.NewSource(seed))
		p := newPlay(t, seed, 1+r.Intn(5), 1+r.Intn(3), 512)
		p.begin(many, 20)
		keys := 0
		op := func() (api.Op, bool) {
			switch r.Intn(8) {
			case 0:
				return api.Op{Kind: api.Audit}, true
			case 1:
				return api.Op{Kind: api.Move, Slot: r.Intn(api.Slots), Shard: 1 + r.Intn(p.shards)}, true
			case 2:
				return transferOf(many, r.Intn(keys+1)), true
			}
			keys = min(keys+1, 150)
			return transferOf(many, keys-1), true
		}
		for range 2500 {
			p.step(op)
		}
		p.recover()
		a, k := p.wantOnce(many, 20, keys)
		audits, transfers = audits+a, transfers+k
	}
	if audits < 20 || transfers < 100 {
		t.Errorf("%d audits, %d transfers: too few to tell anything", audits, transfers)
	}
}

// transferOf is the transfer of a key.
func transferOf(names []string, k int) api.Op {
	from := k * 7 % len(names)
	to := (from + 1 + k/3%(len(names)-1)) % len(names)
	return api.Op{Kind: api.Transfer, From: names[from], To: names[to], Amount: 1 + int64(k%9), Key: fmt.Sprint("t", k)}
}

// wantOnce asks for all transfers again, and holds all that was ever told against what is told now; it answers how many audits and transfers were told.
func (p *play) wantOnce(names []string, amount int64, keys int) (int, int) {
	p.t.Helper()
	calls := p.calls
	has := map[string]int64{}
	now := map[api.Op]api.Errno{}
	for k := range keys + 1 {
		o := transferOf(names, k)
		now[o] = p.ask(o).Why
		if now[o] == api.OK {
			has[o.From] -= o.Amount
			has[o.To] += o.Amount
		}
	}
	audits, transfers := 0, 0
	for _, e := range calls {
		switch {
		case !e.counts() || e.end == 0:
		case e.op.Kind == api.Transfer:
			transfers++
			if now[e.op] != e.reply.Why {
				p.fail(fmt.Sprintf("%+v: told %d, and now %d", e.op, e.reply.Why, now[e.op]))
			}
		case e.op.Kind == api.Audit:
			audits++
			p.wantAll(e.reply, names, amount)
		}
	}
	for _, row := range p.ask(api.Op{Kind: api.Audit}).Rows {
		if row.Amount != amount+has[row.Name] {
			p.fail(fmt.Sprintf("%+v; want %d", row, amount+has[row.Name]))
		}
	}
	return audits, transfers
}

// wantAll asks that an audit has all accounts, and together what was put into them.
func (p *play) wantAll(r api.Reply, names []string, amount int64) {
	p.t.Helper()
	sum, right := int64(0), len(r.Rows) == len(names)
	for k, row := range r.Rows {
		sum += row.Amount
		right = right && row.Name == names[k]
	}
	if !right || sum != amount*int64(len(names)) {
		p.fail(fmt.Sprintf("an audit: %+v", r))
	}
}

// P20.3, P6: where disks have no room for all that is asked, nothing more is begun, and no machine is dead of that, whatever the script.
func TestLittleRoom(t *testing.T) {
	for seed := *first; seed < *first+int64(*scripts)/5; seed++ {
		r := rand.New(rand.NewSource(seed))
		p := newPlay(t, seed, 1+r.Intn(5), 1+r.Intn(3), []int{64, 70, 90, 128, 200}[r.Intn(5)])
		for range 20 {
			p.do(api.Event{Kind: api.EvRound})
		}
		keys := 0
		op := func() (api.Op, bool) {
			keys++
			return p.great(keys), p.c.Calls() < api.MaxScript
		}
		for range 1500 {
			if o, is := op(); is && r.Intn(3) == 0 {
				p.call(o)
			}
			p.step(op)
		}
		p.recover()
		for i := range 100 {
			if o, is := op(); is {
				p.call(o)
			}
			p.do(api.Event{Kind: api.EvRound})
			for k := range p.c.Nodes() {
				if !p.c.Up(k) {
					p.fail(fmt.Sprintf("behind %d quiet rounds the machine %d is dead", i, k))
				}
			}
		}
		p.recover()
	}
}

// great is an operation of long names and keys.
func (p *play) great(k int) api.Op {
	from, to := p.r.Intn(40), p.r.Intn(39)
	if to >= from {
		to++
	}
	name := func(i int) string { return fmt.Sprintf("an_account_of_%010d", i) }
	o := api.Op{Kind: api.Transfer, From: name(from), To: name(to), Amount: 1 + p.r.Int63n(1<<20), Key: fmt.Sprintf("a_key_of_%015d", k)}
	switch p.r.Intn(9) {
	case 0, 1:
		o.Kind = api.Open
	case 2:
		o.Kind, o.Amount = api.Deposit, 1<<50
	case 3:
		o = p.move()
		o.Slot = p.r.Intn(api.Slots)
	case 4:
		o = api.Op{Kind: api.Audit}
	}
	return o
}

// P6, P20.2: many transfers at once come to their end within a few rounds, and what is on its way for them fits into these.
func TestManyAtOnce(t *testing.T) {
	const accounts = 150
	for n := 3; n <= api.MaxNodes; n++ {
		p := newPlay(t, 1, n, 3, 2048)
		var many []string
		for i := range accounts {
			many = append(many, fmt.Sprint("a", i))
		}
		p.begin(many, 5)
		for i, name := range many {
			o := api.Op{Kind: api.Transfer, From: name, To: many[(i+1)%accounts], Amount: 1, Key: "t"}
			p.do(api.Event{Kind: api.EvCall, Node: leaderOf(t, p.c, name), Op: o})
			for p.c.Flight() > 0 {
				p.do(api.Event{Kind: api.EvDeliver})
			}
		}
		if pending := p.c.Busy(); pending < accounts {
			t.Errorf("%d are busy: too few to tell anything", pending)
		}
		for i := 0; p.c.Busy() > 0 || p.c.Flight() > 0; i++ {
			if i > 30 || p.c.Flight() > 2000 {
				p.t.Fatalf("%d machines: behind %d rounds %d are busy, %d letters on their way", n, i, p.c.Busy(), p.c.Flight())
			}
			p.do(api.Event{Kind: api.EvRound})
		}
		slices.Sort(many)
		p.wantAll(p.ask(api.Op{Kind: api.Audit}), many, 5)
	}
}
