package cluster

import (
	"fmt"
	"math"
	"math/rand"
	"reflect"
	"testing"

	"almoner/api"
	"almoner/client"
	"almoner/disk"
	"almoner/net"
	"almoner/node"
)

// plain is a cluster as the page has it, in plain lists.
type plain struct {
	shards int
	disks  []*disk.Disk
	nodes  []*node.Node
	flight []net.Letter
	calls  []api.Op
	told   map[int]api.Reply
	come   map[int64]int
}

func newPlain(n, shards, sectors int) *plain {
	p := &plain{shards: shards, told: map[int]api.Reply{}, come: map[int64]int{}}
	for range n {
		d, _ := disk.New(sectors)
		p.disks = append(p.disks, d)
	}
	p.nodes = make([]*node.Node, n)
	for i := range n {
		p.nodes[i], _ = node.New(i, n, shards, p.disks[i])
	}
	return p
}

func (p *plain) up(i int) bool {
	return i >= 0 && i < len(p.nodes) && p.nodes[i] != nil && !p.nodes[i].Dead()
}

func (p *plain) send(from int, l []node.Out) {
	for _, out := range l {
		if len(p.flight) < api.MaxFlight {
			p.flight = append(p.flight, net.Letter{From: from, To: out.To, Data: out.Data})
		}
	}
}

// pick is the number of the letter that a step means; -1, if none is on its way.
func (p *plain) pick(n int) int {
	if len(p.flight) == 0 {
		return -1
	}
	for n %= len(p.flight); n < 0; {
		n += len(p.flight)
	}
	return n
}

func (p *plain) take(k int) []api.Told {
	l := p.flight[k]
	p.flight = append(p.flight[:k:k], p.flight[k+1:]...)
	x, _ := client.Unpack(l.Data)
	if l.To == -1 {
		if _, is := p.told[int(x.N)]; is {
			return nil
		}
		p.told[int(x.N)] = x.Reply
		return []api.Told{{Call: int(x.N), Reply: x.Reply}}
	}
	if !p.up(l.To) {
		return nil
	}
	if l.From == -1 && x.Op.Kind <= api.Transfer {
		if p.come[x.N]++; p.come[x.N] > 1 {
			return nil
		}
	}
	p.send(l.To, p.nodes[l.To].Handle(l.From, l.Data))
	return nil
}

func (p *plain) do(e api.Event) []api.Told {
	k, there := p.pick(e.N), e.Node >= 0 && e.Node < len(p.nodes)
	switch {
	case e.Kind == api.EvCall && there && len(p.calls) < api.MaxScript:
		p.calls = append(p.calls, e.Op)
		if b, why := client.Pack(client.Letter{Kind: client.Call, N: int64(len(p.calls) - 1), Op: e.Op}); why == api.OK {
			p.send(-1, []node.Out{{To: e.Node, Data: b}})
		}
	case e.Kind == api.EvDeliver && k >= 0:
		return p.take(k)
	case e.Kind == api.EvDrop && k >= 0:
		p.flight = append(p.flight[:k:k], p.flight[k+1:]...)
	case e.Kind == api.EvDouble && k >= 0:
		p.send(p.flight[k].From, []node.Out{{To: p.flight[k].To, Data: p.flight[k].Data}})
	case e.Kind == api.EvTick && p.up(e.Node):
		p.send(e.Node, p.nodes[e.Node].Tick())
	case e.Kind == api.EvDraw && p.up(e.Node):
		p.nodes[e.Node].Draw(e.N)
	case e.Kind == api.EvFail && there:
		p.disks[e.Node].Fail()
	case e.Kind == api.EvFull && there && (e.N == 0 || e.N == 1):
		p.disks[e.Node].Full(e.N == 1)
	case e.Kind == api.EvCrash:
		for i := range p.nodes {
			if e.N&(1<<i) != 0 {
				p.disks[i].Crash(e.L)
				p.nodes[i], _ = node.New(i, len(p.nodes), p.shards, p.disks[i])
			}
		}
	case e.Kind == api.EvRound:
		var l []api.Told
		for i := range p.nodes {
			if p.up(i) {
				p.send(i, p.nodes[i].Tick())
			}
		}
		for k := 0; k < 2000 && len(p.flight) > 0; k++ {
			l = append(l, p.take(0)...)
		}
		return l
	}
	return nil
}

// anyEvent is a step with any numbers.
func anyEvent(r *rand.Rand, n, shards int) api.Event {
	e := api.Event{Kind: 1 + r.Intn(10), Node: r.Intn(n), N: r.Intn(40)}
	switch r.Intn(30) {
	case 0:
		e.Kind = []int{0, -1, 11, math.MaxInt, math.MinInt}[r.Intn(5)]
	case 1:
		e.Node = []int{-1, n, 5, math.MaxInt, math.MinInt}[r.Intn(5)]
	case 2:
		e.N = []int{-1, -7, math.MaxInt, math.MinInt, -1 << 40}[r.Intn(5)]
	}
	switch {
	case e.Kind == api.EvCall:
		o := api.Op{Kind: r.Intn(9), From: names[r.Intn(4)], To: names[r.Intn(4)], Amount: r.Int63n(9), Key: fmt.Sprint("k", r.Intn(20)), Slot: r.Intn(17), Shard: 1 + r.Intn(shards)}
		if r.Intn(40) == 0 {
			o.To = string(make([]byte, api.MaxBytes+r.Intn(2)))
		}
		e.Op = o
	case e.Kind == api.EvFail && r.Intn(4) > 0, e.Kind == api.EvDrop && r.Intn(2) > 0, e.Kind == api.EvCrash && r.Intn(2) > 0:
		e.Kind = api.EvDeliver
	case e.Kind == api.EvFull && r.Intn(4) > 0:
		e.N = 0
	case e.Kind == api.EvFull:
		e.N = r.Intn(4) - 1
	case e.Kind == api.EvCrash:
		e.L = make([]int, r.Intn(20))
		for i := range e.L {
			e.L[i] = r.Intn(400) - 50
		}
	}
	return e
}

// P20.1, P20.2, P20.4, P1, rule 6: whatever steps, a cluster is at each what the page says.
func TestModel(t *testing.T) {
	answers, dead := 0, 0
	for seed := range int64(80) {
		r := rand.New(rand.NewSource(seed))
		n, shards, sectors := 1+r.Intn(5), 1+r.Intn(3), 64+r.Intn(200)
		c, why := New(n, shards, sectors)
		if why != api.OK {
			t.Fatalf("New: %d", why)
		}
		p := newPlain(n, shards, sectors)
		for step := range 600 {
			e := anyEvent(r, n, shards)
			if step < 14 {
				e.Kind = api.EvRound
			}
			got, want := c.Do(e), p.do(e)
			if len(got)+len(want) > 0 && !reflect.DeepEqual(got, want) {
				t.Fatalf("seed %d, step %d: %+v: told %+v; want %+v", seed, step, e, got, want)
			}
			answers += len(got)
			wantSame(t, c, p)
			if step%20 == 0 {
				wantSameDisks(t, c, p)
			}
		}
		for i := range n {
			if !p.up(i) {
				dead++
			}
		}
	}
	if answers < 1000 || dead < 20 {
		t.Errorf("%d answers, %d machines that do not work: too few to tell anything", answers, dead)
	}
}

// wantSame holds all that is to be seen of a cluster against the plain one.
func wantSame(t *testing.T, c *Cluster, p *plain) {
	t.Helper()
	if c.Flight() != len(p.flight) || c.Nodes() != len(p.nodes) || c.Calls() != len(p.calls) {
		t.Fatalf("Flight %d, Nodes %d, Calls %d; want %d, %d, %d", c.Flight(), c.Nodes(), c.Calls(), len(p.flight), len(p.nodes), len(p.calls))
	}
	for i := -1; i <= len(p.nodes); i++ {
		if c.Up(i) != p.up(i) || (c.Node(i) != nil) != p.up(i) {
			t.Fatalf("Up(%d) %v, Node %v; want %v", i, c.Up(i), c.Node(i), p.up(i))
		}
	}
	wantSameCalls(t, c, p)
	for g := -1; g <= p.shards+1; g++ {
		if got, want := c.Leader(g), p.leader(g); got != want {
			t.Fatalf("Leader(%d): %d; want %d", g, got, want)
		}
	}
	if got, want := c.Busy(), p.busy(); got != want {
		t.Fatalf("Busy: %d; want %d", got, want)
	}
}

func wantSameDisks(t *testing.T, c *Cluster, p *plain) {
	t.Helper()
	images := c.Images()
	for i, d := range p.disks {
		if string(images[i]) != string(d.Image()) || c.Disk(i).Unsynced() != d.Unsynced() || c.Disk(i).Dead() != d.Dead() {
			t.Fatalf("the disk %d is another one", i)
		}
	}
}

func wantSameCalls(t *testing.T, c *Cluster, p *plain) {
	t.Helper()
	open := map[int]api.Op{}
	for n, o := range p.calls {
		reply, told := p.told[n]
		if op, r, is := c.Call(n); op != o || is != told || is && !reflect.DeepEqual(r, reply) {
			t.Fatalf("Call(%d): %+v, %+v, %v; want %+v, %+v, %v", n, op, r, is, o, reply, told)
		}
		if !told {
			open[n] = o
		}
	}
	last := -1
	for n, o := range c.Open() {
		if n <= last || open[n] != o {
			t.Fatalf("Open: %d behind %d, %+v; want %+v", n, last, o, open[n])
		}
		last = n
		delete(open, n)
	}
	if len(open) > 0 {
		t.Fatalf("Open: %v are not there", open)
	}
}

func (p *plain) leader(g int) int {
	leader := -1
	for i := range p.nodes {
		if p.up(i) && p.nodes[i].Info(g).Role == api.Leader && (leader < 0 || p.nodes[i].Info(g).Term > p.nodes[leader].Info(g).Term) {
			leader = i
		}
	}
	return leader
}

func (p *plain) busy() int {
	count := 0
	for g := 0; g <= p.shards; g++ {
		leader := p.leader(g)
		if leader < 0 {
			count++
			continue
		}
		x := p.nodes[leader]
		if n, _ := x.Chart().Audit(); g == 0 && (n > 0 || x.Chart().Move().N > 0) {
			count++
		}
		if g > 0 {
			count += x.Shard(g).Busy() + len(x.Shard(g).Pending())
		}
	}
	return count
}
