package mover

import (
	"bytes"
	"fmt"
	"hash/crc32"
	"slices"
	"testing"

	"almoner/api"
	"almoner/chart"
	"almoner/shard"
	"almoner/txn"
)

// Operations by what they are.

func open(from, key string) api.Op {
	return api.Op{Kind: api.Open, From: from, Key: key}
}

func deposit(from string, n int64, key string) api.Op {
	return api.Op{Kind: api.Deposit, From: from, Amount: n, Key: key}
}

func transfer(from, to string, n int64, key string) api.Op {
	return api.Op{Kind: api.Transfer, From: from, To: to, Amount: n, Key: key}
}

// Commands by what they are.

func op(o api.Op) shard.Cmd {
	return shard.Cmd{Kind: shard.CmdOp, Op: o}
}

func hold(slot int, epoch int64) shard.Cmd {
	return shard.Cmd{Kind: shard.CmdHold, Slot: slot, Epoch: epoch}
}

func install(slot int, epoch int64, at int, last bool, data []byte) shard.Cmd {
	return shard.Cmd{Kind: shard.CmdInstall, Slot: slot, Epoch: epoch, At: at, Last: last, Data: data}
}

func drop(slot int, epoch int64) shard.Cmd {
	return shard.Cmd{Kind: shard.CmdDrop, Slot: slot, Epoch: epoch}
}

func step(n int64, phase int) chart.Cmd {
	return chart.Cmd{Kind: chart.CmdStep, N: n, Phase: phase}
}

// slotOf is the slot of a name, by the library's own sum.
func slotOf(name string) int {
	return int(crc32.Checksum([]byte(name), crc32.MakeTable(crc32.Castagnoli)) % 16)
}

// named is the i-th name of a slot.
func named(slot, i int) string {
	for n := 0; ; n++ {
		if name := fmt.Sprintf("n%d", n); slotOf(name) == slot {
			if i == 0 {
				return name
			}
			i--
		}
	}
}

// counted is so many bytes, no piece of which is as another one.
func counted(n int) []byte {
	b := make([]byte, n)
	for i := range b {
		b[i] = byte(i * 7 / 5)
	}
	return b
}

// moving is the move of the slot 3 from 1 to 2 in a phase.
func moving(phase int) chart.Moving {
	return chart.Moving{Slot: 3, From: 1, To: 2, Epoch: 4, Phase: phase, N: 9}
}

// with is a mover that has so many bytes of the slot, of which some have gone, in this move.
func with(t *testing.T, data []byte, gone int) *Mover {
	t.Helper()
	m := New()
	x := moving(chart.Install)
	m.Told(x, txn.Ask{Group: 1, Cmd: hold(3, 4)}, shard.Result{Data: data})
	for at := 0; at < gone; at = m.At() {
		m.Told(x, txn.Ask{Group: 2, Cmd: install(3, 4, at, false, make([]byte, min(Piece, gone-at)))}, shard.Result{})
	}
	wantHas(t, m, len(data), gone)
	return m
}

// wantHas asks how many bytes a mover has, and how many have gone.
func wantHas(t *testing.T, m *Mover, has, at int) {
	t.Helper()
	if m.Has() != has || m.At() != at {
		t.Fatalf("Has %d, At %d; want %d, %d", m.Has(), m.At(), has, at)
	}
}

// sameAsk tells whether two asks are one.
func sameAsk(a, b txn.Ask) bool {
	x, y := a.Cmd, b.Cmd
	return a.Group == b.Group && x.Kind == y.Kind && x.Op == y.Op && x.Id == y.Id && x.Name == y.Name && x.N == y.N && x.Why == y.Why &&
		x.Slot == y.Slot && x.Epoch == y.Epoch && x.At == y.At && x.Last == y.Last && bytes.Equal(x.Data, y.Data)
}

// wantAsks asks that just these are asked.
func wantAsks(t *testing.T, m *Mover, x chart.Moving, want ...txn.Ask) {
	t.Helper()
	if got := slices.Collect(m.Asks(x)); !slices.EqualFunc(got, want, sameAsk) {
		t.Fatalf("Asks(%+v): %+v; want %+v", x, got, want)
	}
}

// wantStep asks that this command of the chart follows.
func wantStep(t *testing.T, m *Mover, x chart.Moving, a txn.Ask, r shard.Result, want chart.Cmd) {
	t.Helper()
	if c, is := m.Told(x, a, r); !is || c != want {
		t.Fatalf("Told(%+v, %+v, %+v): %+v, %v; want %+v", x, a, r, c, is, want)
	}
}

// wantNothing asks that no command of the chart follows.
func wantNothing(t *testing.T, m *Mover, x chart.Moving, a txn.Ask, r shard.Result) {
	t.Helper()
	if c, is := m.Told(x, a, r); is || c != (chart.Cmd{}) {
		t.Fatalf("Told(%+v, %+v, %+v): %+v, %v", x, a, r, c, is)
	}
}

func mustShard(t *testing.T, me, shards int) *shard.Shard {
	t.Helper()
	s, why := shard.New(me, shards)
	if s == nil || why != api.OK {
		t.Fatalf("New(%d, %d): %v, %d", me, shards, s, why)
	}
	return s
}

func mustChart(t *testing.T, shards int) *chart.Chart {
	t.Helper()
	c, why := chart.New(shards)
	if c == nil || why != api.OK {
		t.Fatalf("New(%d): %v, %d", shards, c, why)
	}
	return c
}
