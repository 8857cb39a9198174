package mover

import (
	"fmt"
	"math/rand"
	"testing"

	"almoner/api"
	"almoner/chart"
	"almoner/shard"
	"almoner/txn"
)

// plain is a mover as the chapter tells it: the bytes as a text, or none.
type plain struct {
	n     int64
	bytes []string
	gone  int
}

// meet is what comes of being asked or told of a move, or of none, which is in the phase 0.
func (p *plain) meet(x chart.Moving) {
	if p.n != x.N || x.Phase == 0 {
		*p = plain{n: x.N}
	}
}

// asks is what is to be asked.
func (p *plain) asks(x chart.Moving) []txn.Ask {
	p.meet(x)
	c := shard.Cmd{Slot: x.Slot, Epoch: x.Epoch}
	switch name := fmt.Sprint(x.Phase, " ", len(p.bytes)); name {
	case "1 0", "1 1", "2 0":
		c.Kind = 8
		return []txn.Ask{{Group: x.From, Cmd: c}}
	case "2 1":
		c.Kind, c.At = 9, p.gone
		left := p.bytes[0][p.gone:]
		if c.Last = len(left) <= 1000; !c.Last {
			left = left[:1000]
		}
		c.Data = []byte(left)
		return []txn.Ask{{Group: x.To, Cmd: c}}
	case "3 0", "3 1":
		c.Kind = 10
		return []txn.Ask{{Group: x.From, Cmd: c}}
	}
	return nil
}

// told is what is to come of an answer.
func (p *plain) told(x chart.Moving, a txn.Ask, r shard.Result) (chart.Cmd, bool) {
	p.meet(x)
	group := map[int]int{8: x.From, 9: x.To, 10: x.From}[a.Cmd.Kind]
	if a.Group != group || a.Cmd.Slot != x.Slot || a.Cmd.Epoch != x.Epoch {
		return chart.Cmd{}, false
	}
	next := chart.Cmd{Kind: 2, N: x.N, Phase: x.Phase}
	switch name := fmt.Sprint(a.Cmd.Kind, " ", x.Phase, " ", int(r.Why)); name {
	case "8 1 0", "8 2 0":
		if len(p.bytes) == 0 || len(r.Data) < p.gone {
			p.gone = 0
		}
		p.bytes = []string{string(r.Data)}
		if x.Phase == 1 {
			return next, true
		}
	case "9 2 0", "9 2 5", "9 2 3":
		if len(p.bytes) == 0 || a.Cmd.At != p.gone {
			break
		}
		if r.Why != 0 {
			p.gone = 0
			break
		}
		if p.gone += len(a.Cmd.Data); p.gone > len(p.bytes[0]) {
			p.gone = len(p.bytes[0])
		}
		if a.Cmd.Last {
			return next, true
		}
	case "10 3 0":
		return next, true
	}
	return chart.Cmd{}, false
}

// has is how many bytes there are to be.
func (p *plain) has() int {
	if len(p.bytes) == 0 {
		return -1
	}
	return len(p.bytes[0])
}

func oneOf[T any](r *rand.Rand, l ...T) T {
	return l[r.Intn(len(l))]
}

// someMoving is a move that is often the one before, or near it.
func someMoving(r *rand.Rand, was chart.Moving) chart.Moving {
	x := was
	switch r.Intn(20) {
	case 0:
		x = chart.Moving{Slot: r.Intn(3), From: r.Intn(3), To: r.Intn(3), Epoch: r.Int63n(3), Phase: r.Intn(5) - 1, N: 1 + r.Int63n(3)}
	case 1:
		x.N = 1 + r.Int63n(3)
	case 2, 3, 4, 5:
		x.Phase = oneOf(r, 1, 2, 2, 2, 3, 0, 4)
	case 6:
		x.Epoch++
	}
	return x
}

// someAsk is an ask that is often the one that is asked now.
func someAsk(r *rand.Rand, p *plain, x chart.Moving) txn.Ask {
	l := append((&plain{}).asks(x), p.asks(x)...)
	if len(l) == 0 || r.Intn(6) == 0 {
		l = append(l, txn.Ask{Group: r.Intn(3), Cmd: shard.Cmd{Kind: r.Intn(12), Slot: x.Slot, Epoch: x.Epoch, At: r.Intn(3) * 500, Last: r.Intn(2) == 0, Data: counted(r.Intn(3000))}})
	}
	a := l[len(l)-1-r.Intn(min(2, len(l)))]
	switch r.Intn(20) {
	case 0:
		a.Group = r.Intn(3)
	case 1:
		a.Cmd.Slot = r.Intn(3)
	case 2:
		a.Cmd.Epoch = r.Int63n(3)
	case 3:
		a.Cmd.At = r.Intn(4) * 500
	case 4:
		a.Cmd.Last = !a.Cmd.Last
	case 5:
		a.Cmd.Data = counted(r.Intn(3000))
	}
	return a
}

// P16.1, P16.2, P16.3, P1: scripts of moves, asks and answers, those that can be and others, held against the chapter's words.
func TestScripts(t *testing.T) {
	followed := map[chart.Cmd]int{}
	for seed := range int64(2000) {
		r := rand.New(rand.NewSource(seed))
		m, p := New(), &plain{}
		x := moving(chart.Hold)
		for range 60 {
			x = someMoving(r, x)
			if r.Intn(3) == 0 {
				wantAsks(t, m, x, p.asks(x)...)
			}
			a := someAsk(r, p, x)
			reply := shard.Result{Why: oneOf(r, api.OK, api.OK, api.OK, api.OK, api.ErrState, api.ErrSize, api.ErrRetry, api.ErrFull), Data: counted(r.Intn(5) * 700)}
			want, wantIs := p.told(x, a, reply)
			if got, is := m.Told(x, a, reply); got != want || is != wantIs {
				t.Fatalf("%d: Told(%+v, %+v, %+v): %+v, %v; want %+v, %v", seed, x, a, reply, got, is, want, wantIs)
			}
			wantHas(t, m, p.has(), p.gone)
			if wantIs {
				followed[chart.Cmd{Phase: want.Phase}]++
			}
		}
	}
	for phase := 1; phase <= 3; phase++ {
		if n := followed[chart.Cmd{Phase: phase}]; n < 1000 {
			t.Errorf("the phase %d ended %d times", phase, n)
		}
	}
}
