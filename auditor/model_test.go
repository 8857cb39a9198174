package auditor

import (
	"fmt"
	"math/rand"
	"slices"
	"testing"

	"almoner/api"
	"almoner/chart"
	"almoner/shard"
	"almoner/txn"
)

// plain is an auditor as the chapter tells it: who has answered, and what was told, in maps by the shards' numbers.
type plain struct {
	shards   int
	n        int64
	phase    int
	answered map[int]int
	collect  map[int]int // who has answered in Collect since that began last
	told     map[int][]api.Row
}

func newPlain(shards int) *plain {
	return &plain{shards: shards, answered: map[int]int{}, collect: map[int]int{}, told: map[int][]api.Row{}}
}

// meet is what comes of being asked or told of an audit in a phase.
func (p *plain) meet(n int64, phase int) {
	if p.n != n {
		p.told = map[int][]api.Row{}
	}
	if p.n != n || p.phase != phase && phase == 1 {
		p.collect = map[int]int{}
	}
	if p.n != n || p.phase != phase {
		p.answered = map[int]int{}
	}
	p.n, p.phase = n, phase
}

// asks is what is to be asked.
func (p *plain) asks(n int64, phase int) []txn.Ask {
	p.meet(n, phase)
	var l []txn.Ask
	for me := 1; me <= p.shards; me++ {
		if phase != 1 && phase != 2 || p.answered[me] > 0 {
			continue
		}
		l = append(l, txn.Ask{Group: me, Cmd: shard.Cmd{Kind: 5 + phase, Epoch: n}})
	}
	return l
}

// learn is what is to come of an answer.
func (p *plain) learn(n int64, phase int, x txn.Ask, r shard.Result) (chart.Cmd, bool) {
	p.meet(n, phase)
	switch {
	case phase != 1 && phase != 2 || x.Cmd.Kind != 5+phase:
		return chart.Cmd{}, false
	case x.Group < 1 || x.Group > p.shards || x.Cmd.Epoch != n || r.Why != 0:
		return chart.Cmd{}, false
	}
	p.answered[x.Group]++
	if phase == 1 {
		p.collect[x.Group]++
		p.told[x.Group] = r.Reply.Rows
	}
	if len(p.answered) < p.shards {
		return chart.Cmd{}, false
	}
	return chart.Cmd{Kind: 3 + phase, N: n}, true
}

// rows is all rows that are to be told: each goes ahead of the first one that has a greater name.
func (p *plain) rows() ([]api.Row, bool) {
	if len(p.collect) < p.shards {
		return nil, false
	}
	var l []api.Row
	for me := 1; me <= p.shards; me++ {
		for _, r := range p.told[me] {
			at := slices.IndexFunc(l, func(x api.Row) bool { return x.Name > r.Name })
			if at < 0 {
				at = len(l)
			}
			l = slices.Insert(l, at, r)
		}
	}
	return l, true
}

func oneOf[T any](r *rand.Rand, l ...T) T {
	return l[r.Intn(len(l))]
}

// someRows is a few rows of few names, in any order.
func someRows(r *rand.Rand) []api.Row {
	var l []api.Row
	for range r.Intn(4) {
		l = append(l, row(fmt.Sprint("n", r.Intn(6)), r.Int63n(1000)))
	}
	return l
}

// someAsk is an ask that is often one that is asked in that audit and phase.
func someAsk(r *rand.Rand, n int64, phase int) txn.Ask {
	x := txn.Ask{Group: 1 + r.Intn(3), Cmd: shard.Cmd{Kind: 5 + phase, Epoch: n}}
	switch r.Intn(20) {
	case 0:
		x.Group = r.Intn(6) - 1
	case 1:
		x.Cmd.Kind = r.Intn(12)
	case 2:
		x.Cmd.Epoch = r.Int63n(4) - 1
	case 3:
		x.Cmd.Slot, x.Cmd.Data = r.Intn(3), []byte("x")
	}
	return x
}

// P17.1, P17.2, P17.3, P1: scripts of audits, asks and answers, those that can be and others, held against the chapter's words.
func TestScripts(t *testing.T) {
	followed, whole := map[int]int{}, 0
	for seed := range int64(3000) {
		r := rand.New(rand.NewSource(seed))
		shards := 1 + int(seed%3)
		a, p := New(shards), newPlain(shards)
		n, phase := int64(0), 0
		for range 80 {
			if r.Intn(12) == 0 {
				n, phase = r.Int63n(4)-1, r.Intn(5)-1
			} else if r.Intn(8) == 0 {
				phase = oneOf(r, 1, 1, 2, 2, 0, 3)
			}
			if r.Intn(4) == 0 {
				wantAsks(t, a, n, phase, p.asks(n, phase)...)
			} else {
				x := someAsk(r, n, phase)
				reply := told(someRows(r)...)
				reply.Why = oneOf(r, api.OK, api.OK, api.OK, api.ErrRetry, api.ErrState)
				want, wantIs := p.learn(n, phase, x, reply)
				if got, is := a.Told(n, phase, x, reply); got != want || is != wantIs {
					t.Fatalf("%d: Told(%d, %d, %+v, %+v): %+v, %v; want %+v, %v", seed, n, phase, x, reply, got, is, want, wantIs)
				}
				if wantIs {
					followed[want.Kind]++
				}
			}
			wantLeft(t, a, shards-len(p.answered))
			if want, is := p.rows(); is {
				whole++
				wantRows(t, a, want...)
			} else {
				wantNoRows(t, a)
			}
		}
	}
	if followed[chart.CmdCut] < 1000 || followed[chart.CmdThawed] < 1000 || whole < 1000 {
		t.Errorf("%v followed, all rows were there %d times", followed, whole)
	}
}
