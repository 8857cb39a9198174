package chart

import (
	"bytes"
	"math"
	"math/rand"
	"testing"

	"almoner/api"
)

// P14.2, P14.4: the chapter's example.
func TestExample(t *testing.T) {
	c := mustNew(t, 2)
	if c.Owner(0) != 1 {
		t.Fatalf("Owner(0): %d", c.Owner(0))
	}
	wantDo(t, c, move(0, 2), waits(1))
	wantDo(t, c, step(1, Hold), went(1))
	wantDo(t, c, step(1, Install), went(1))
	if c.Owner(0) != 2 || c.Epoch(0) != 1 {
		t.Fatalf("Owner(0) %d, Epoch(0) %d", c.Owner(0), c.Epoch(0))
	}
	wantRefused(t, c, audit(), api.ErrRetry)
	wantDo(t, c, step(1, Drop), went(1))
	wantDo(t, c, audit(), waits(2))
}

// P14.1: a chart as it is at first, and how many shards there can be.
func TestNew(t *testing.T) {
	for _, shards := range []int{math.MinInt, -1, 0, 4, math.MaxInt} {
		if c, why := New(shards); c != nil || why != api.ErrArg {
			t.Errorf("New(%d): %v, %d", shards, c, why)
		}
	}
	for shards := 1; shards <= api.MaxShards; shards++ {
		c := mustNew(t, shards)
		for slot := range 16 {
			if c.Owner(slot) != 1+slot%shards || c.Epoch(slot) != 0 {
				t.Errorf("of %d: slot %d: %d, %d", shards, slot, c.Owner(slot), c.Epoch(slot))
			}
		}
		for _, slot := range []int{math.MinInt, -1, 16, math.MaxInt} {
			if c.Owner(slot) != 0 || c.Epoch(slot) != 0 {
				t.Errorf("of %d: slot %d: %d, %d", shards, slot, c.Owner(slot), c.Epoch(slot))
			}
		}
		n, phase := c.Audit()
		if n != 0 || phase != Idle || c.Move() != (Moving{}) || c.Shards() != shards {
			t.Errorf("of %d: %d, %d, %v, %d", shards, n, phase, c.Move(), c.Shards())
		}
		if want := written(first(shards)...); !bytes.Equal(c.Image(), want) {
			t.Errorf("of %d: %x, want %x", shards, c.Image(), want)
		}
	}
}

// P14.1, P1: a nil chart, and one that nobody made.
func TestNilAndZero(t *testing.T) {
	var c *Chart
	for kind := range 8 {
		wantDo(t, c, Cmd{Kind: kind}, Result{Why: api.ErrNil})
	}
	n, phase := c.Audit()
	if c.Owner(0) != 0 || c.Epoch(0) != 0 || c.Move() != (Moving{}) || n != 0 || phase != 0 || c.Shards() != 0 || c.Image() != nil || c.Copy() != nil {
		t.Errorf("of nil: %d, %d, %v, %d, %d, %d, %v, %v", c.Owner(0), c.Epoch(0), c.Move(), n, phase, c.Shards(), c.Image(), c.Copy())
	}
	c = &Chart{}
	wantRefused(t, c, move(0, 0), api.ErrArg)
	wantRefused(t, c, move(0, 1), api.ErrArg)
	wantRefused(t, c, step(0, Idle), api.ErrState)
	wantDo(t, c, audit(), waits(1))
	if d, why := Load(c.Image()); d != nil || why != api.ErrForm {
		t.Errorf("Load of no shards: %v, %d", d, why)
	}
}

// P14.1, P7: a command's bytes, and back.
func TestCommandBytes(t *testing.T) {
	for _, c := range []struct {
		x    Cmd
		want string
	}{
		{Cmd{}, "\x00\x00\x00\x00\x00"},
		{Cmd{Kind: 2, Slot: 3, Shard: 1, N: 300, Phase: 2}, "\x04\x06\x02\xd8\x04\x04"},
		{Cmd{Kind: -1, Slot: -2, Shard: -3, N: -4, Phase: -5}, "\x01\x03\x05\x07\x09"},
	} {
		if got := Bytes(c.x); string(got) != c.want {
			t.Errorf("Bytes of %+v: %x", c.x, got)
		}
	}
	r := rand.New(rand.NewSource(1))
	edges := []int64{0, 1, -1, 63, 64, -64, -65, great, math.MaxInt64, math.MinInt64}
	some := func() int64 { return edges[r.Intn(len(edges))] }
	for range 500 {
		x := Cmd{Kind: int(some()), Slot: int(some()), Shard: int(some()), N: some(), Phase: int(some())}
		b := Bytes(x)
		if want := written(int64(x.Kind), int64(x.Slot), int64(x.Shard), x.N, int64(x.Phase)); !bytes.Equal(b, want) {
			t.Fatalf("Bytes of %+v: %x, want %x", x, b, want)
		}
		if y, why := Parse(b); y != x || why != api.OK {
			t.Fatalf("Parse of %x: %+v, %d; want %+v", b, y, why, x)
		}
		for n := range len(b) {
			if y, why := Parse(b[:n]); y != (Cmd{}) || why != api.ErrShort {
				t.Fatalf("Parse of %x: %+v, %d", b[:n], y, why)
			}
		}
		if y, why := Parse(append(b, 0)); y != (Cmd{}) || why != api.ErrForm {
			t.Fatalf("Parse of %x and a byte: %+v, %d", b, y, why)
		}
	}
}

// P14.1, P1: what Parse refuses, and by which error where several apply.
func TestParseRefuses(t *testing.T) {
	for _, c := range []struct {
		what string
		b    []byte
		why  api.Errno
	}{
		{"nothing", nil, api.ErrShort},
		{"a number in no form", []byte{2, 0x80, 0, 0, 0, 0}, api.ErrForm},
		{"too many numbers", make([]byte, 6), api.ErrForm},
		{"100 bytes", make([]byte, 100), api.ErrForm},
		{"101 bytes", make([]byte, 101), api.ErrSize},
		{"101 bytes that end too early", bytes.Repeat([]byte{0xff}, 101), api.ErrSize},
		{"100 bytes of no number", bytes.Repeat([]byte{0xff}, 100), api.ErrForm},
	} {
		if x, why := Parse(c.b); x != (Cmd{}) || why != c.why {
			t.Errorf("Parse of %s: %+v, %d, want %d", c.what, x, why, c.why)
		}
	}
}

// P14.2, P1: kinds that there are not.
func TestNoSuchKind(t *testing.T) {
	for _, kind := range []int{math.MinInt, -1, 0, 6, 7, math.MaxInt} {
		wantRefused(t, mustNew(t, 2), Cmd{Kind: kind, Slot: 0, Shard: 2, N: 1, Phase: 1}, api.ErrArg)
	}
}

// P14.2: which moves begin, by the first error where several apply.
func TestMove(t *testing.T) {
	wrong := []Cmd{move(-1, 1), move(16, 1), move(math.MinInt, 1), move(math.MaxInt, 1), move(0, 0), move(0, 3), move(0, -1), move(15, math.MaxInt), move(15, math.MinInt), move(16, 0)}
	c := mustNew(t, 2)
	for _, x := range wrong {
		wantRefused(t, c, x, api.ErrArg)
	}
	for slot := range 16 {
		was := *c
		wantDo(t, c, move(slot, c.Owner(slot)), Result{})
		if *c != was {
			t.Errorf("a move of the slot %d to its owner changed %+v to %+v", slot, was, *c)
		}
	}
	// What does not belong to the kind plays no part.
	wantDo(t, c, Cmd{Kind: CmdMove, Slot: 15, Shard: 1, N: 7, Phase: 9}, waits(1))
	if want := (Moving{Slot: 15, From: 2, To: 1, Epoch: 1, Phase: Hold, N: 1}); c.Move() != want || c.Owner(15) != 2 || c.Epoch(15) != 0 {
		t.Errorf("Move %+v, want %+v", c.Move(), want)
	}
	for _, x := range wrong {
		wantRefused(t, c, x, api.ErrArg)
	}
	wantRefused(t, c, move(0, 2), api.ErrRetry)
	wantRefused(t, c, move(0, 1), api.ErrRetry)
	wantRefused(t, c, audit(), api.ErrRetry)
}

// P14.2, P14.4, P14.5: the phases of a move, each of which ends once.
func TestStep(t *testing.T) {
	c := mustNew(t, 3)
	for n := range int64(4) {
		for phase := -1; phase <= 4; phase++ {
			wantRefused(t, c, step(n, phase), api.ErrState)
		}
	}
	wantDo(t, c, move(3, 3), waits(1))
	for _, phase := range []int{Hold, Install, Drop} {
		for _, n := range []int64{math.MinInt64, -1, 0, 1, 2, math.MaxInt64} {
			for _, other := range []int{math.MinInt, -1, Idle, Hold, Install, Drop, 4, math.MaxInt} {
				if n != 1 || other != phase {
					wantRefused(t, c, step(n, other), api.ErrState)
				}
			}
		}
		if c.Move() != (Moving{Slot: 3, From: 1, To: 3, Epoch: 1, Phase: phase, N: 1}) {
			t.Fatalf("Move %+v", c.Move())
		}
		wantDo(t, c, Cmd{Kind: CmdStep, N: 1, Phase: phase, Slot: 9, Shard: 9}, went(1))
		wantRefused(t, c, step(1, phase), api.ErrState)
		if changed := phase != Hold; (c.Owner(3) == 3) != changed || (c.Epoch(3) == 1) != changed {
			t.Fatalf("behind the phase %d: %d, %d", phase, c.Owner(3), c.Epoch(3))
		}
	}
	if c.Move() != (Moving{}) {
		t.Errorf("Move %+v", c.Move())
	}
	wantDo(t, c, move(3, 2), waits(2))
	if want := (Moving{Slot: 3, From: 3, To: 2, Epoch: 2, Phase: Hold, N: 2}); c.Move() != want {
		t.Errorf("Move %+v, want %+v", c.Move(), want)
	}
}

// P14.2, P14.5: the phases of an audit, each of which ends once.
func TestAudit(t *testing.T) {
	c := mustNew(t, 1)
	others := []int64{math.MinInt64, -1, 0, 2, math.MaxInt64}
	for n := range int64(3) {
		wantRefused(t, c, cut(n), api.ErrState)
		wantRefused(t, c, thawed(n), api.ErrState)
	}
	wantDo(t, c, Cmd{Kind: CmdAudit, Slot: -1, Shard: -1, N: -1, Phase: -1}, waits(1))
	for _, n := range others {
		wantRefused(t, c, cut(n), api.ErrState)
		wantRefused(t, c, thawed(n), api.ErrState)
	}
	if n, phase := c.Audit(); n != 1 || phase != Collect {
		t.Errorf("Audit %d, %d", n, phase)
	}
	wantRefused(t, c, thawed(1), api.ErrState)
	wantRefused(t, c, audit(), api.ErrRetry)
	wantRefused(t, c, move(0, 1), api.ErrRetry)
	wantRefused(t, c, move(0, 2), api.ErrArg)
	wantRefused(t, c, step(1, Hold), api.ErrState)
	wantDo(t, c, cut(1), went(1))
	wantRefused(t, c, cut(1), api.ErrState)
	for _, n := range others {
		wantRefused(t, c, cut(n), api.ErrState)
		wantRefused(t, c, thawed(n), api.ErrState)
	}
	if n, phase := c.Audit(); n != 1 || phase != Thaw {
		t.Errorf("Audit %d, %d", n, phase)
	}
	wantRefused(t, c, audit(), api.ErrRetry)
	wantRefused(t, c, move(0, 1), api.ErrRetry)
	wantDo(t, c, thawed(1), went(1))
	wantRefused(t, c, thawed(1), api.ErrState)
	wantRefused(t, c, cut(1), api.ErrState)
	if n, phase := c.Audit(); n != 0 || phase != Idle {
		t.Errorf("Audit %d, %d", n, phase)
	}
	wantDo(t, c, audit(), waits(2))
}

// P14.2: how many can ever begin, moves and audits together.
func TestMostBegun(t *testing.T) {
	almost := with(first(2), set{atBegan, great - 1})
	c := mustLoad(t, almost)
	wantDo(t, c, audit(), waits(great))
	wantDo(t, c, cut(great), went(great))
	wantDo(t, c, thawed(great), went(great))
	wantRefused(t, c, audit(), api.ErrRetry)
	wantRefused(t, c, move(0, 2), api.ErrRetry)
	wantRefused(t, c, move(0, 1), api.ErrRetry)
	wantRefused(t, c, move(0, 3), api.ErrArg)
	c = mustLoad(t, almost)
	wantDo(t, c, move(0, 2), waits(great))
	if d, why := Load(c.Image()); why != api.OK || *d != *c {
		t.Errorf("Load of the last move: %v, %d", d, why)
	}
}

// P14.3: a copy is another one.
func TestCopy(t *testing.T) {
	c := mustNew(t, 2)
	d := c.Copy()
	wantDo(t, c, move(0, 2), waits(1))
	wantDo(t, c, step(1, Hold), went(1))
	wantDo(t, c, step(1, Install), went(1))
	if *d != *mustNew(t, 2) {
		t.Errorf("a copy went on with the other one: %+v", d)
	}
	d = c.Copy()
	if *d != *c {
		t.Errorf("Copy %+v, want %+v", d, c)
	}
	wantDo(t, d, step(1, Drop), went(1))
	if c.Move().Phase != Drop {
		t.Errorf("the other one went on with a copy: %+v", c)
	}
}

// P14.1, P14.3: answers and arguments share no memory with a chart.
func TestMemory(t *testing.T) {
	c := mustNew(t, 2)
	image := c.Image()
	clear(image)
	if want := written(first(2)...); !bytes.Equal(c.Image(), want) {
		t.Errorf("Image shares memory: %x", c.Image())
	}
	b := written(first(3)...)
	d, _ := Load(b)
	clear(b)
	if *d != *mustNew(t, 3) {
		t.Errorf("Load kept its bytes: %+v", d)
	}
	b = Bytes(move(3, 2))
	x, _ := Parse(b)
	if clear(b); x != move(3, 2) {
		t.Errorf("Parse kept its bytes: %+v", x)
	}
}
