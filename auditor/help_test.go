package auditor

import (
	"bytes"
	"fmt"
	"hash/crc32"
	"slices"
	"testing"

	"almoner/api"
	"almoner/chart"
	"almoner/shard"
	"almoner/txn"
)

// Operations by what they are.

func open(from, key string) api.Op {
	return api.Op{Kind: api.Open, From: from, Key: key}
}

func deposit(from string, n int64, key string) api.Op {
	return api.Op{Kind: api.Deposit, From: from, Amount: n, Key: key}
}

func transfer(from, to string, n int64, key string) api.Op {
	return api.Op{Kind: api.Transfer, From: from, To: to, Amount: n, Key: key}
}

// Commands and asks by what they are.

func op(o api.Op) shard.Cmd {
	return shard.Cmd{Kind: shard.CmdOp, Op: o}
}

func freeze(group int, n int64) txn.Ask {
	return txn.Ask{Group: group, Cmd: shard.Cmd{Kind: shard.CmdFreeze, Epoch: n}}
}

func thaw(group int, n int64) txn.Ask {
	return txn.Ask{Group: group, Cmd: shard.Cmd{Kind: shard.CmdThaw, Epoch: n}}
}

func cut(n int64) chart.Cmd {
	return chart.Cmd{Kind: chart.CmdCut, N: n}
}

func thawed(n int64) chart.Cmd {
	return chart.Cmd{Kind: chart.CmdThawed, N: n}
}

// told is a result with rows.
func told(rows ...api.Row) shard.Result {
	return shard.Result{Reply: api.Reply{Rows: rows}}
}

func row(name string, n int64) api.Row {
	return api.Row{Name: name, Amount: n}
}

// slotOf is the slot of a name, by the library's own sum.
func slotOf(name string) int {
	return int(crc32.Checksum([]byte(name), crc32.MakeTable(crc32.Castagnoli)) % 16)
}

// named is the i-th name of a slot.
func named(slot, i int) string {
	for n := 0; ; n++ {
		if name := fmt.Sprintf("n%d", n); slotOf(name) == slot {
			if i == 0 {
				return name
			}
			i--
		}
	}
}

// sameAsk tells whether two asks are one.
func sameAsk(a, b txn.Ask) bool {
	x, y := a.Cmd, b.Cmd
	return a.Group == b.Group && x.Kind == y.Kind && x.Op == y.Op && x.Id == y.Id && x.Name == y.Name && x.N == y.N && x.Why == y.Why &&
		x.Slot == y.Slot && x.Epoch == y.Epoch && x.At == y.At && x.Last == y.Last && bytes.Equal(x.Data, y.Data)
}

// wantAsks asks that just these are asked.
func wantAsks(t *testing.T, a *Auditor, n int64, phase int, want ...txn.Ask) {
	t.Helper()
	if got := slices.Collect(a.Asks(n, phase)); !slices.EqualFunc(got, want, sameAsk) {
		t.Fatalf("Asks(%d, %d): %+v; want %+v", n, phase, got, want)
	}
}

// wantStep asks that this command of the chart follows.
func wantStep(t *testing.T, a *Auditor, n int64, phase int, x txn.Ask, r shard.Result, want chart.Cmd) {
	t.Helper()
	if c, is := a.Told(n, phase, x, r); !is || c != want {
		t.Fatalf("Told(%d, %d, %+v, %+v): %+v, %v; want %+v", n, phase, x, r, c, is, want)
	}
}

// wantNothing asks that no command of the chart follows.
func wantNothing(t *testing.T, a *Auditor, n int64, phase int, x txn.Ask, r shard.Result) {
	t.Helper()
	if c, is := a.Told(n, phase, x, r); is || c != (chart.Cmd{}) {
		t.Fatalf("Told(%d, %d, %+v, %+v): %+v, %v", n, phase, x, r, c, is)
	}
}

// wantRows asks that just these rows are told.
func wantRows(t *testing.T, a *Auditor, want ...api.Row) {
	t.Helper()
	if got, is := a.Rows(); !is || !slices.Equal(got, want) {
		t.Fatalf("Rows: %+v, %v; want %+v", got, is, want)
	}
}

// wantNoRows asks that no rows are told.
func wantNoRows(t *testing.T, a *Auditor) {
	t.Helper()
	if got, is := a.Rows(); is || len(got) != 0 {
		t.Fatalf("Rows: %+v, %v", got, is)
	}
}

// wantLeft asks how many have not answered.
func wantLeft(t *testing.T, a *Auditor, want int) {
	t.Helper()
	if got := a.Left(); got != want {
		t.Fatalf("Left: %d; want %d", got, want)
	}
}

// collecting is an auditor of three shards to which the first ones of them have told a row in Collect of the audit 7.
func collecting(t *testing.T, answered int) *Auditor {
	t.Helper()
	a := New(3)
	wantAsks(t, a, 7, chart.Collect, freeze(1, 7), freeze(2, 7), freeze(3, 7))
	for me := 1; me <= answered; me++ {
		a.Told(7, chart.Collect, freeze(me, 7), told(row(fmt.Sprint("n", me), int64(me))))
	}
	wantLeft(t, a, 3-answered)
	return a
}

func mustShard(t *testing.T, me, shards int) *shard.Shard {
	t.Helper()
	s, why := shard.New(me, shards)
	if s == nil || why != api.OK {
		t.Fatalf("New(%d, %d): %v, %d", me, shards, s, why)
	}
	return s
}

func mustChart(t *testing.T, shards int) *chart.Chart {
	t.Helper()
	c, why := chart.New(shards)
	if c == nil || why != api.OK {
		t.Fatalf("New(%d): %v, %d", shards, c, why)
	}
	return c
}

// doStep lets a chart do a command of an audit, and tells whether it does. It follows too early, if it cuts one by which not all shards are frozen, or ends one by which one is still.
func doStep(t *testing.T, c *chart.Chart, shards []*shard.Shard, x chart.Cmd) bool {
	t.Helper()
	if c.Do(x).Why != api.OK {
		return false
	}
	for i, s := range shards {
		if (s.Frozen() == x.N) != (x.Kind == chart.CmdCut) {
			t.Fatalf("behind %+v the shard %d is frozen by %d", x, i+1, s.Frozen())
		}
	}
	return true
}
