package ledger

import (
	"fmt"
	"math/rand"
	"testing"

	"almoner/api"
	"almoner/crc"
	"almoner/history"
	"almoner/serial"
)

// play is a ledger that a random script goes on with.
type play struct {
	t      *testing.T
	seed   int64
	r      *rand.Rand
	l      *Ledger
	shards int
	log    []string
}

func newPlay(t *testing.T, seed int64) *play {
	t.Helper()
	r := rand.New(rand.NewSource(seed))
	n, shards := 1+r.Intn(api.MaxNodes), 1+r.Intn(api.MaxShards)
	return &play{t: t, seed: seed, r: r, l: newLedger(t, n, shards), shards: shards}
}

// fail tells the whole script.
func (p *play) fail(what string) {
	p.t.Helper()
	for _, s := range p.log {
		p.t.Log(s)
	}
	p.t.Fatalf("seed %d, %d machines, %d shards: %s; calls:%s", p.seed, p.l.Cluster().Nodes(), p.shards, what, show(p.l.Calls()))
}

func (p *play) step(e api.Event) {
	p.log = append(p.log, fmt.Sprintf("%+v: %d", e, p.l.Step(e)))
}

func (p *play) power() {
	p.t.Helper()
	kept := someKept(p.r, p.l.Cluster().Nodes())
	p.log = append(p.log, fmt.Sprint("power ", kept))
	if why := p.l.Power(kept); why != api.OK {
		p.fail(fmt.Sprintf("Power: %d", why))
	}
}

func (p *play) restart() {
	p.t.Helper()
	p.log = append(p.log, "restart")
	if why := p.l.Restart(); why != api.OK {
		p.fail(fmt.Sprintf("Restart: %d", why))
	}
}

func (p *play) quiet() {
	p.t.Helper()
	n, is := p.l.Quiet()
	p.log = append(p.log, fmt.Sprint("quiet ", n))
	if !is || n > p.l.Bound() || p.l.Cluster().Busy() != 0 {
		p.fail(fmt.Sprintf("Quiet: %d, %v, Busy %d", n, is, p.l.Cluster().Busy()))
	}
}

// do asks for an operation, which is to be answered.
func (p *play) do(o api.Op) api.Reply {
	p.t.Helper()
	r := p.l.Do(o)
	p.log = append(p.log, fmt.Sprintf("do %+v: %+v", o, r))
	if r.Why == api.ErrRetry || !serial.Fits(o, r) {
		p.fail(fmt.Sprintf("Do(%+v): %+v", o, r))
	}
	return r
}

// machine is one that would take an operation, if there is one; now and then any.
func (p *play) machine(o api.Op) int {
	c := p.l.Cluster()
	any := p.r.Intn(c.Nodes())
	for g := range p.shards + 1 {
		leader := c.Leader(g)
		if takes := g == 0 && o.Kind >= api.Audit || g > 0 && o.Kind < api.Audit && c.Node(leader).Shard(g).Owns(o.From); takes && leader >= 0 && p.r.Intn(5) > 0 {
			return leader
		}
	}
	return any
}

// any is a step that goes wrong in some way, or does not; now and then an operation is asked for.
func (p *play) any(op func() (api.Op, bool)) {
	p.t.Helper()
	n := p.l.Cluster().Nodes()
	e := api.Event{Node: p.r.Intn(n), N: p.r.Intn(1000)}
	switch x := p.r.Intn(100); {
	case x < 50:
		e.Kind = api.EvDeliver
	case x < 62:
		e.Kind = api.EvTick
	case x < 73:
		e.Kind = api.EvRound
	case x < 76:
		e.Kind = api.EvDraw
	case x < 83:
		o, is := op()
		if !is {
			return
		}
		e = api.Event{Kind: api.EvCall, Node: p.machine(o), Op: o}
	case x < 87:
		e.Kind = api.EvDrop
	case x < 93:
		e.Kind = api.EvDouble
	case x < 94:
		e.Kind = api.EvFail
	case x < 95:
		e.Kind, e.N = api.EvFull, p.r.Intn(3)
	case x < 98:
		e.Kind, e.N, e.L = api.EvCrash, p.r.Intn(1<<n), someBytes(p.r)
	case p.r.Intn(6) == 0:
		p.power()
		return
	case p.r.Intn(12) == 0:
		p.restart()
		return
	case p.r.Intn(4) == 0:
		p.alone(op)
		return
	default:
		e.Kind, e.N = api.EvDeliver, 0
	}
	p.step(e)
}

// alone lets a machine tick, and another one be asked, while all that any machine sends is lost.
func (p *play) alone(op func() (api.Op, bool)) {
	machine := p.r.Intn(p.l.Cluster().Nodes())
	for range p.r.Intn(40) {
		p.step(at(api.EvTick, machine))
		for p.l.Cluster().Flight() > 0 {
			p.step(at(api.EvDrop, 0))
		}
		if o, is := op(); is && p.r.Intn(8) == 0 {
			p.step(api.Event{Kind: api.EvCall, Node: p.machine(o), Op: o})
			p.step(at(api.EvDeliver, 0))
		}
	}
}

// move is a move of a slot, mostly of one that has an account of these.
func (p *play) move(names []string) api.Op {
	o := api.Op{Kind: api.Move, Slot: p.r.Intn(api.Slots), Shard: 1 + p.r.Intn(p.shards)}
	if p.r.Intn(3) > 0 {
		o.Slot = crc.Slot(names[p.r.Intn(len(names))])
	}
	return o
}

// wantSameAnswers asks again for all that was answered and has a key (P22.7).
func (p *play) wantSameAnswers() {
	p.t.Helper()
	asked := map[api.Op]int{}
	for _, c := range p.l.Calls() {
		if _, is := asked[c.Op]; is || !c.Told || !counts(c) || c.Op.Kind > api.Transfer {
			continue
		}
		asked[c.Op]++
		if r := p.do(c.Op); !sameReply(r, c.Reply) {
			p.fail(fmt.Sprintf("%+v: told %+v, and now %+v", c.Op, c.Reply, r))
		}
	}
}

// wantAgreed asks that machines that have done as many commands of a group have the same of it (P8).
func (p *play) wantAgreed() {
	p.t.Helper()
	c := p.l.Cluster()
	for g := range p.shards + 1 {
		has := map[int64]string{}
		for i := range c.Nodes() {
			x := c.Node(i)
			if x == nil {
				continue
			}
			image := string(x.Chart().Image())
			if g > 0 {
				image = string(x.Shard(g).Image())
			}
			if was, is := has[x.Applied(g)]; is && was != image {
				p.fail(fmt.Sprintf("the group %d is another one at the machine %d", g, i))
			}
			has[x.Applied(g)] = image
		}
	}
}

// search looks for an order of many calls.
type search struct {
	calls []history.Call
	seen  map[string][]*serial.Ledger // where nothing was found, by the calls that are done
}

// inOrder tells whether there is an order of calls, however many there are.
func inOrder(l []history.Call) bool {
	s := &search{calls: counting(l), seen: map[string][]*serial.Ledger{}}
	return s.from(serial.New(), make([]bool, len(s.calls)))
}

func (s *search) from(ledger *serial.Ledger, done []bool) bool {
	key := fmt.Sprint(done)
	for _, x := range s.seen[key] {
		if x.Same(ledger) {
			return false
		}
	}
	s.seen[key] = append(s.seen[key], ledger)
	left := false
	for i, c := range s.calls {
		left = left || c.Told && !done[i]
	}
	for i, c := range s.calls {
		if !left || done[i] || !s.mayBeNext(i, done) {
			continue
		}
		next := ledger.Copy()
		if r := next.Do(c.Op); c.Told && !sameReply(r, c.Reply) {
			continue
		}
		done[i] = true
		is := s.from(next, done)
		done[i] = false
		if is {
			return true
		}
	}
	return !left
}

// mayBeNext tells whether no call that is not done yet is ahead of this one.
func (s *search) mayBeNext(i int, done []bool) bool {
	for j, c := range s.calls {
		if !done[j] && history.Ahead(c, s.calls[i]) {
			return false
		}
	}
	return true
}
