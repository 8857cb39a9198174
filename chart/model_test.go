package chart

import (
	"bytes"
	"fmt"
	"math/rand"
	"testing"

	"almoner/api"
)

// plain is a chart as the numbers of its image.
type plain []int64

// do is what is to come of a command.
func (p plain) do(x Cmd) Result {
	shards, began, m, a := int(p[atShards]), &p[atBegan], p[atMove:atAudit], p[atAudit:]
	busy := m[4] != 0 || a[1] != 0
	begin := func() Result {
		*began++
		return Result{Wait: true, N: *began}
	}
	switch name := fmt.Sprint(x.Kind, busy || *began == great); {
	case x.Kind == 1 && (x.Slot < 0 || x.Slot > 15 || x.Shard < 1 || x.Shard > shards):
		return Result{Why: api.ErrArg}
	case name == "1 true", name == "3 true":
		return Result{Why: api.ErrRetry}
	case name == "1 false" && int(p[atOwner(x.Slot)]) == x.Shard:
		return Result{}
	case name == "1 false":
		r := begin()
		copy(m, []int64{int64(x.Slot), p[atOwner(x.Slot)], int64(x.Shard), p[atEpoch(x.Slot)] + 1, 1, r.N})
		return r
	case name == "3 false":
		r := begin()
		a[0], a[1] = r.N, 1
		return r
	case x.Kind == 2:
		return p.step(x, m)
	case x.Kind == 4 && a[1] == 1 && a[0] == x.N:
		a[1] = 2
		return Result{N: x.N}
	case x.Kind == 5 && a[1] == 2 && a[0] == x.N:
		clear(a)
		return Result{N: x.N}
	case x.Kind == 4, x.Kind == 5:
		return Result{Why: api.ErrState}
	}
	return Result{Why: api.ErrArg}
}

// step is what is to come of a step.
func (p plain) step(x Cmd, m []int64) Result {
	switch {
	case m[4] == 0 || int(m[4]) != x.Phase || m[5] != x.N:
		return Result{Why: api.ErrState}
	case m[4] == 3:
		clear(m)
		return Result{N: x.N}
	case m[4] == 2:
		p[atOwner(int(m[0]))], p[atEpoch(int(m[0]))] = m[2], m[3]
	}
	m[4]++
	return Result{N: x.N}
}

// someCmd is a command that often does something: one that follows, or any.
func someCmd(r *rand.Rand, c *Chart) Cmd {
	m := c.Move()
	n, phase := c.Audit()
	switch r.Intn(8) {
	case 0, 1:
		return move(r.Intn(17), r.Intn(5))
	case 2:
		return audit()
	case 3, 4:
		if m.Phase != Idle {
			return step(m.N, m.Phase)
		}
		if phase == Thaw {
			return thawed(n)
		}
		return cut(n)
	}
	return Cmd{Kind: r.Intn(8) - 1, Slot: r.Intn(18) - 1, Shard: r.Intn(6) - 1, N: max(m.N, n) + int64(r.Intn(3)-1), Phase: r.Intn(6) - 1}
}

// wantPlain holds all that a chart tells against what it is to be.
func wantPlain(t *testing.T, c *Chart, p plain) {
	t.Helper()
	for slot := range 16 {
		if int64(c.Owner(slot)) != p[atOwner(slot)] || c.Epoch(slot) != p[atEpoch(slot)] {
			t.Fatalf("slot %d: %d, %d; want %v", slot, c.Owner(slot), c.Epoch(slot), p)
		}
	}
	l := p[atMove:]
	want := Moving{Slot: int(l[0]), From: int(l[1]), To: int(l[2]), Epoch: l[3], Phase: int(l[4]), N: l[5]}
	n, phase := c.Audit()
	if c.Move() != want || n != p[atAudit] || int64(phase) != p[atAudit+1] || int64(c.Shards()) != p[atShards] {
		t.Fatalf("Move %v, Audit %d, %d, Shards %d; want %v", c.Move(), n, phase, c.Shards(), p)
	}
	if got := c.Image(); !bytes.Equal(got, written(p...)) {
		t.Fatalf("Image %v; want %v", read(t, got), p)
	}
}

// P14.1-P14.6, P7: scripts, held against the numbers of the image: every result is right; each slot has one owner, and its epoch rises by one with each change; a step that is done twice is refused; what was written and read goes on as it does.
func TestScripts(t *testing.T) {
	whys := map[api.Errno]int{}
	begun, changes, again := 0, 0, 0
	for seed := range int64(300) {
		r := rand.New(rand.NewSource(seed))
		shards := 1 + r.Intn(3)
		c, p := mustNew(t, shards), plain(first(shards))
		for range 120 {
			x := someCmd(r, c)
			was := *c
			got, want := c.Do(x), p.do(x)
			if got != want {
				t.Fatalf("seed %d: Do %+v: %+v, want %+v", seed, x, got, want)
			}
			whys[got.Why]++
			if got.Why != api.OK && *c != was {
				t.Fatalf("%+v was refused with %d, and changed %+v to %+v", x, got.Why, was, *c)
			}
			if got.Wait {
				begun++
			}
			wantPlain(t, c, p)
			changes += changed(t, &was, c)
			if x.Kind == CmdStep && got.Why == api.OK {
				again++
				wantRefused(t, c, x, api.ErrState)
			}
			switch r.Intn(6) {
			case 0:
				c = c.Copy()
			case 1:
				d, why := Load(c.Image())
				if why != api.OK || *d != *c {
					t.Fatalf("Load of %+v: %+v, %d", c, d, why)
				}
				c = d
			}
		}
	}
	for _, why := range []api.Errno{api.OK, api.ErrArg, api.ErrState, api.ErrRetry} {
		if whys[why] < 1000 {
			t.Errorf("%d was answered %d times", why, whys[why])
		}
	}
	if begun < 1000 || changes < 300 || again < 1000 {
		t.Errorf("%d began, %d slots changed their owners, %d steps were done again", begun, changes, again)
	}
}

// changed is how many slots have another owner now; the epochs of just these have risen, by one.
func changed(t *testing.T, was, is *Chart) int {
	t.Helper()
	n := 0
	for slot := range 16 {
		rise := is.Epoch(slot) - was.Epoch(slot)
		other := is.Owner(slot) != was.Owner(slot)
		if is.Owner(slot) < 1 || is.Owner(slot) > is.Shards() || other != (rise == 1) || !other && rise != 0 {
			t.Fatalf("slot %d: %d of %d, and was %d of %d", slot, is.Owner(slot), is.Epoch(slot), was.Owner(slot), was.Epoch(slot))
		}
		if other {
			n++
		}
	}
	return n
}
