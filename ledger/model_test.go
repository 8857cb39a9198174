package ledger

import (
	"fmt"
	"math"
	"math/rand"
	"reflect"
	"testing"

	"almoner/api"
	"almoner/cluster"
	"almoner/history"
)

// plain is a ledger as the page has it, word by word, on a cluster of its own.
type plain struct {
	c      *cluster.Cluster
	shards int
	time   int
	calls  []history.Call
	place  map[int]int // of a call of the cluster: where it stands in calls
}

func newPlain(n, shards int) *plain {
	c, _ := cluster.New(n, shards, 512)
	return &plain{c: c, shards: shards, place: map[int]int{}}
}

func (p *plain) step(e api.Event) []api.Told {
	before := p.c.Calls()
	told := p.c.Do(e)
	for n := before; n < p.c.Calls(); n++ {
		p.time++
		p.place[n] = len(p.calls)
		p.calls = append(p.calls, history.Call{Op: e.Op, Begin: p.time})
	}
	for _, x := range told {
		p.time++
		c := &p.calls[p.place[x.Call]]
		c.End, c.Told, c.Reply = p.time, true, x.Reply
	}
	return told
}

func (p *plain) do(o api.Op, bound int) api.Reply {
	mine := map[int]int{}
	for k := range bound {
		mine[p.c.Calls()] = k
		p.step(api.Event{Kind: api.EvCall, Node: k % p.c.Nodes(), Op: o})
		for _, x := range p.step(api.Event{Kind: api.EvRound}) {
			if _, is := mine[x.Call]; is && x.Reply.Why != api.ErrRetry {
				return x.Reply
			}
		}
	}
	return api.Reply{Why: api.ErrRetry}
}

func (p *plain) quiet(bound int) (int, bool) {
	for n := 0; ; n++ {
		if p.c.Busy() == 0 {
			return n, true
		}
		if n == bound {
			return n, false
		}
		p.step(api.Event{Kind: api.EvRound})
	}
}

func (p *plain) restart() {
	all := make([]int, 10000)
	for i := range all {
		all[i] = math.MaxInt
	}
	bits := 0
	for i := range p.c.Nodes() {
		bits |= 1 << i
		p.step(api.Event{Kind: api.EvFull, Node: i})
	}
	p.step(api.Event{Kind: api.EvCrash, N: bits, L: all})
}

func (p *plain) power(kept [][]int) {
	var images [][]byte
	for i := range p.c.Nodes() {
		d := p.c.Disk(i)
		if i < len(kept) {
			d.Crash(kept[i])
		} else {
			d.Crash(nil)
		}
		images = append(images, d.Image())
	}
	p.c, _ = cluster.Load(images, p.shards)
	p.place = map[int]int{}
}

// someKept is how much is kept of writes that are not safe: of none, of some, of all machines, and of more than there are.
func someKept(r *rand.Rand, n int) [][]int {
	var kept [][]int
	for range r.Intn(n + 2) {
		kept = append(kept, someBytes(r))
	}
	return kept
}

func someBytes(r *rand.Rand) []int {
	l := make([]int, r.Intn(12))
	for i := range l {
		l[i] = r.Intn(400) - 50
	}
	return l
}

// anyOp is an operation of few names and keys; now and then one that can not be.
func anyOp(r *rand.Rand, shards int) api.Op {
	names := []string{"ann", "bob", "cy", "dora"}
	o := api.Op{Kind: 1 + r.Intn(7), From: names[r.Intn(4)], To: names[r.Intn(4)], Amount: 1 + r.Int63n(9), Key: fmt.Sprint("k", r.Intn(30)), Slot: r.Intn(16), Shard: 1 + r.Intn(shards)}
	if r.Intn(12) == 0 {
		o.Kind, o.Slot = r.Intn(10)-1, r.Intn(20)-2
	}
	return o
}

// anyStep is a step with any numbers.
func anyStep(r *rand.Rand, n, shards int) api.Event {
	e := api.Event{Kind: 1 + r.Intn(10), Node: r.Intn(n), N: r.Intn(50), Op: anyOp(r, shards), L: someBytes(r)}
	switch {
	case r.Intn(30) == 0:
		e.Node = oddNumbers()[r.Intn(5)]
	case r.Intn(50) == 0:
		e.Kind = oddNumbers()[r.Intn(2)]
	case r.Intn(2) == 0 && e.Kind != api.EvCall:
		e.Kind = api.EvDeliver
	case (e.Kind == api.EvFail || e.Kind == api.EvCrash || e.Kind == api.EvDrop) && r.Intn(2) == 0:
		e.Kind = api.EvRound
	case e.Kind == api.EvFull:
		e.N = r.Intn(6)
	}
	return e
}

// P22.1 to P22.4, rule 6: whatever is done, a ledger, its cluster and its record are at each time what the page says.
func TestModel(t *testing.T) {
	answers, unsafe := 0, 0
	for seed := range int64(60) {
		r := rand.New(rand.NewSource(seed))
		n, shards := 1+r.Intn(5), 1+r.Intn(3)
		l, p := newLedger(t, n, shards), newPlain(n, shards)
		for step := range 250 {
			what := ""
			same := true
			switch x := r.Intn(40); {
			case x == 0 && l.Cluster().Calls() < 1000:
				o := anyOp(r, shards)
				a, b := l.Do(o), p.do(o, l.Bound())
				what, same = fmt.Sprintf("Do(%+v): %+v; want %+v", o, a, b), sameReply(a, b)
			case x == 1 && r.Intn(3) == 0:
				a, is := l.Quiet()
				b, should := p.quiet(l.Bound())
				what, same = fmt.Sprintf("Quiet: %d, %v; want %d, %v", a, is, b, should), a == b && is == should
			case x == 2:
				for i := range n {
					unsafe += l.Cluster().Disk(i).Unsynced()
				}
				if r.Intn(2) == 0 {
					l.Restart()
					p.restart()
					what = "Restart"
					break
				}
				kept := someKept(r, n)
				l.Power(kept)
				p.power(kept)
				what = fmt.Sprintf("Power(%v)", kept)
			default:
				e := anyStep(r, n, shards)
				if e.Kind == api.EvFull && e.Node == 0 {
					e.N = 0 // one works, mostly
				}
				a, b := l.Step(e), len(p.step(e))
				what, same = fmt.Sprintf("Step(%+v): %d; want %d", e, a, b), a == b
				answers += a
			}
			if !same {
				t.Fatalf("seed %d, %d: %s", seed, step, what)
			}
			wantSame(t, l, p, step%10 == 0)
			if t.Failed() {
				t.Fatalf("seed %d, %d: %s", seed, step, what)
			}
		}
	}
	if answers < 500 || unsafe < 50 {
		t.Errorf("%d answers, %d writes that were not safe: too few to tell anything", answers, unsafe)
	}
}

// wantSame holds a ledger against the plain one.
func wantSame(t *testing.T, l *Ledger, p *plain, deep bool) {
	t.Helper()
	c := l.Cluster()
	if c.Flight() != p.c.Flight() || c.Calls() != p.c.Calls() || c.Busy() != p.c.Busy() {
		t.Errorf("Flight %d, Calls %d, Busy %d; want %d, %d, %d", c.Flight(), c.Calls(), c.Busy(), p.c.Flight(), p.c.Calls(), p.c.Busy())
	}
	if got := l.Calls(); len(got)+len(p.calls) > 0 && !reflect.DeepEqual(got, p.calls) {
		t.Errorf("Calls:%s\nwant%s", show(got), show(p.calls))
	}
	if !deep {
		return
	}
	if !reflect.DeepEqual(c.Images(), p.c.Images()) {
		t.Error("the disks are other ones")
	}
	for i := range c.Nodes() {
		if c.Up(i) != p.c.Up(i) || c.Disk(i).Unsynced() != p.c.Disk(i).Unsynced() {
			t.Errorf("the machine %d: Up %v, Unsynced %d", i, c.Up(i), c.Disk(i).Unsynced())
		}
	}
}
