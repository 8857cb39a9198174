package chart

import (
	"encoding/binary"
	"slices"
	"testing"

	"almoner/api"
)

// great is how many can ever begin.
const great = int64(1) << 60

// The places of an image's numbers.
const (
	atShards = 0
	atBegan  = 33
	atMove   = 34 // Slot, From, To, Epoch, Phase, N
	atAudit  = 40 // its number, its phase
	numbers  = 42
)

// atOwner and atEpoch are the places of a slot's owner and epoch.
func atOwner(slot int) int { return 1 + 2*slot }
func atEpoch(slot int) int { return 2 + 2*slot }

// written is numbers one behind the other, as they are to be written.
func written(l ...int64) []byte {
	var b []byte
	for _, n := range l {
		b = binary.AppendVarint(b, n)
	}
	return b
}

// read is the numbers that stand one behind the other.
func read(t *testing.T, b []byte) []int64 {
	t.Helper()
	var l []int64
	for len(b) > 0 {
		n, width := binary.Varint(b)
		if width <= 0 {
			t.Fatalf("no numbers: %x", b)
		}
		l, b = append(l, n), b[width:]
	}
	return l
}

// first is the numbers of the image of a chart of some shards, as it is at first.
func first(shards int) []int64 {
	l := make([]int64, numbers)
	l[atShards] = int64(shards)
	for slot := range 16 {
		l[atOwner(slot)] = int64(1 + slot%shards)
	}
	return l
}

// set is a change of one of an image's numbers.
type set struct {
	at int
	n  int64
}

// with is the numbers of an image, changed.
func with(l []int64, changes ...set) []int64 {
	l = slices.Clone(l)
	for _, c := range changes {
		l[c.at] = c.n
	}
	return l
}

// moving is an image's numbers with a move.
func moving(l []int64, m Moving) []int64 {
	l = slices.Clone(l)
	copy(l[atMove:], []int64{int64(m.Slot), int64(m.From), int64(m.To), m.Epoch, int64(m.Phase), m.N})
	return l
}

func mustNew(t *testing.T, shards int) *Chart {
	t.Helper()
	c, why := New(shards)
	if c == nil || why != api.OK {
		t.Fatalf("New(%d): %v, %d", shards, c, why)
	}
	return c
}

func mustLoad(t *testing.T, l []int64) *Chart {
	t.Helper()
	c, why := Load(written(l...))
	if c == nil || why != api.OK {
		t.Fatalf("Load of %v: %v, %d", l, c, why)
	}
	return c
}

// wantDo asks that a command has this result.
func wantDo(t *testing.T, c *Chart, x Cmd, want Result) {
	t.Helper()
	if r := c.Do(x); r != want {
		t.Fatalf("Do %+v: %+v, want %+v", x, r, want)
	}
}

// wantRefused asks that a command is refused so, and changes nothing.
func wantRefused(t *testing.T, c *Chart, x Cmd, why api.Errno) {
	t.Helper()
	was := *c
	wantDo(t, c, x, Result{Why: why})
	if *c != was {
		t.Fatalf("Do %+v was refused with %d, and changed %+v to %+v", x, why, was, *c)
	}
}

func move(slot, shard int) Cmd {
	return Cmd{Kind: CmdMove, Slot: slot, Shard: shard}
}

func step(n int64, phase int) Cmd {
	return Cmd{Kind: CmdStep, N: n, Phase: phase}
}

func audit() Cmd { return Cmd{Kind: CmdAudit} }

func cut(n int64) Cmd { return Cmd{Kind: CmdCut, N: n} }

func thawed(n int64) Cmd { return Cmd{Kind: CmdThawed, N: n} }

func waits(n int64) Result { return Result{Wait: true, N: n} }

func went(n int64) Result { return Result{N: n} }
