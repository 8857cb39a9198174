package cluster

import (
	"fmt"
	"math/rand"
	"testing"

	"almoner/api"
	"almoner/crc"
)

// play is a cluster that a script goes on with, and all that was asked of it and told.
type play struct {
	t      *testing.T
	seed   int64
	r      *rand.Rand
	c      *Cluster
	shards int
	time   int
	calls  []event
	number map[int]int // of a call of the cluster that is there now: its place in calls
	log    []string
}

func newPlay(t *testing.T, seed int64, n, shards, sectors int) *play {
	p := &play{t: t, seed: seed, r: rand.New(rand.NewSource(seed)), shards: shards, number: map[int]int{}}
	p.c = newCluster(t, n, shards, sectors)
	return p
}

// do does a step, and notes what begins and what is told in it.
func (p *play) do(e api.Event) []api.Told {
	p.t.Helper()
	p.log = append(p.log, fmt.Sprint(e))
	before := p.c.Calls()
	told := p.c.Do(e)
	if p.c.Calls() > before {
		p.time++
		p.number[before] = len(p.calls)
		p.calls = append(p.calls, event{op: e.Op, begin: p.time})
	}
	for _, x := range told {
		p.time++
		call := &p.calls[p.number[x.Call]]
		if call.end > 0 {
			p.fail(fmt.Sprintf("the call %d is told twice", x.Call))
		}
		call.end, call.reply = p.time, x.Reply
		p.log = append(p.log, fmt.Sprintf("told %d %+v", x.Call, x.Reply))
	}
	return told
}

// fail tells the whole script.
func (p *play) fail(what string) {
	p.t.Helper()
	for _, s := range p.log {
		p.t.Log(s)
	}
	p.t.Fatalf("seed %d, %d machines, %d shards: %s", p.seed, p.c.Nodes(), p.shards, what)
}

// counting is how many calls play a part in the order.
func (p *play) counting() int {
	n := 0
	for _, e := range p.calls {
		if e.counts() {
			n++
		}
	}
	return n
}

var names = []string{"ann", "bob", "cy", "dora"}

// two are two of the names.
func (p *play) two() (string, string) {
	from := p.r.Intn(len(names))
	return names[from], names[(from+1+p.r.Intn(len(names)-1))%len(names)]
}

// move is a move of a slot, mostly of one that has an account.
func (p *play) move() api.Op {
	o := api.Op{Kind: api.Move, Slot: p.r.Intn(api.Slots), Shard: 1 + p.r.Intn(p.shards)}
	if p.r.Intn(3) > 0 {
		o.Slot = crc.Slot(names[p.r.Intn(len(names))])
	}
	return o
}

// at is a machine that would take an operation, if there is one; now and then any.
func (p *play) at(o api.Op) int {
	n := p.c.Nodes()
	any := p.r.Intn(n)
	if p.r.Intn(5) == 0 {
		return any
	}
	for i := range n {
		x := p.c.Node((i + any) % n)
		for g := range p.shards + 1 {
			if x.Info(g).Role == api.Leader && (o.Kind >= api.Audit && g == 0 || o.Kind < api.Audit && x.Shard(g).Owns(o.From)) {
				return (i + any) % n
			}
		}
	}
	return any
}

func (p *play) call(o api.Op) {
	p.t.Helper()
	p.do(api.Event{Kind: api.EvCall, Node: p.at(o), Op: o})
}

// kept is how much is kept of what is not safe.
func (p *play) kept() []int {
	l := make([]int, p.r.Intn(12))
	for i := range l {
		l[i] = p.r.Intn(400) - 50
	}
	return l
}

// step is a step of a script, one that goes wrong in some way among them; now and then an operation is asked for.
func (p *play) step(op func() (api.Op, bool)) {
	p.t.Helper()
	n := p.c.Nodes()
	e := api.Event{Node: p.r.Intn(n), N: p.r.Intn(1000)}
	switch x := p.r.Intn(100); {
	case x < 50:
		e.Kind = api.EvDeliver
	case x < 62:
		e.Kind = api.EvTick
	case x < 72:
		e.Kind = api.EvRound
	case x < 76:
		e.Kind = api.EvDraw
	case x < 82:
		if o, is := op(); is {
			p.call(o)
		}
		return
	case x < 86:
		e.Kind = api.EvDrop
	case x < 93:
		e.Kind = api.EvDouble
	case x < 94:
		e.Kind = api.EvFail
	case x < 95:
		e.Kind, e.N = api.EvFull, p.r.Intn(3)
	case x < 98:
		e.Kind, e.N, e.L = api.EvCrash, p.r.Intn(1<<n), p.kept()
	case x == 98 && p.r.Intn(4) == 0:
		p.power()
		return
	default:
		e.Kind, e.N = api.EvDeliver, 0
	}
	p.do(e)
}

// power lets all machines lose their power; it goes on on disks of what is left.
func (p *play) power() {
	p.t.Helper()
	var images [][]byte
	for i := range p.c.Nodes() {
		d := p.c.Disk(i)
		d.Crash(p.kept())
		images = append(images, d.Image())
	}
	c, why := Load(images, p.shards)
	if why != api.OK {
		p.fail(fmt.Sprintf("Load: %d", why))
	}
	p.log = append(p.log, "power")
	p.c, p.number = c, map[int]int{}
	for i := range c.Nodes() {
		if !c.Up(i) {
			p.fail(fmt.Sprintf("the machine %d does not start", i))
		}
	}
}

// recover lets all machines start again, and rounds go by until nothing is busy.
func (p *play) recover() {
	p.t.Helper()
	for i := range p.c.Nodes() {
		p.do(api.Event{Kind: api.EvFull, Node: i})
	}
	p.do(api.Event{Kind: api.EvCrash, N: 1<<p.c.Nodes() - 1})
	for range 100 {
		if p.c.Busy() == 0 {
			return
		}
		p.do(api.Event{Kind: api.EvRound})
	}
	p.fail(fmt.Sprintf("it does not come to rest: %d are busy", p.c.Busy()))
}

// ask asks the machines for an operation until it is answered with something that is not ErrRetry.
func (p *play) ask(o api.Op) api.Reply {
	p.t.Helper()
	for i := range 100 {
		p.do(api.Event{Kind: api.EvCall, Node: i % p.c.Nodes(), Op: o})
		for _, x := range p.do(api.Event{Kind: api.EvRound}) {
			if x.Reply.Why != api.ErrRetry && p.calls[p.number[x.Call]].op == o {
				return x.Reply
			}
		}
	}
	p.fail(fmt.Sprintf("%+v is not answered", o))
	return api.Reply{}
}

// begin lets leaders be, and opens accounts with something in them.
func (p *play) begin(names []string, amount int64) {
	p.t.Helper()
	for range 20 {
		p.do(api.Event{Kind: api.EvRound})
	}
	for _, name := range names {
		for _, o := range []api.Op{{Kind: api.Open, From: name, Key: "o"}, {Kind: api.Deposit, From: name, Key: "d", Amount: amount}} {
			if r := p.ask(o); r.Why != api.OK {
				p.fail(fmt.Sprintf("%+v: %+v", o, r))
			}
		}
	}
}
