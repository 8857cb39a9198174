package txn

import (
	"bytes"
	"encoding/binary"
	"fmt"
	"hash/crc32"
	"slices"
	"testing"

	"almoner/api"
	"almoner/shard"
)

// Operations by what they are.

func open(from, key string) api.Op {
	return api.Op{Kind: api.Open, From: from, Key: key}
}

func deposit(from string, n int64, key string) api.Op {
	return api.Op{Kind: api.Deposit, From: from, Amount: n, Key: key}
}

func withdraw(from string, n int64, key string) api.Op {
	return api.Op{Kind: api.Withdraw, From: from, Amount: n, Key: key}
}

func transfer(from, to string, n int64, key string) api.Op {
	return api.Op{Kind: api.Transfer, From: from, To: to, Amount: n, Key: key}
}

// Commands by what they are.

func op(o api.Op) shard.Cmd {
	return shard.Cmd{Kind: shard.CmdOp, Op: o}
}

func prepare(id, name string, n int64) shard.Cmd {
	return shard.Cmd{Kind: shard.CmdPrepare, Id: id, Name: name, N: n}
}

func decide(id string, why api.Errno) shard.Cmd {
	return shard.Cmd{Kind: shard.CmdDecide, Id: id, Why: why}
}

func finish(id, name string, why api.Errno) shard.Cmd {
	return shard.Cmd{Kind: shard.CmdFinish, Id: id, Name: name, Why: why}
}

func end(id string) shard.Cmd {
	return shard.Cmd{Kind: shard.CmdEnd, Id: id}
}

func freeze(epoch int64) shard.Cmd {
	return shard.Cmd{Kind: shard.CmdFreeze, Epoch: epoch}
}

func thaw(epoch int64) shard.Cmd {
	return shard.Cmd{Kind: shard.CmdThaw, Epoch: epoch}
}

// slotOf is the slot of a name, by the library's own sum.
func slotOf(name string) int {
	return int(crc32.Checksum([]byte(name), crc32.MakeTable(crc32.Castagnoli)) % 16)
}

// named is the i-th name of a slot.
func named(slot, i int) string {
	for n := 0; ; n++ {
		if name := fmt.Sprintf("n%d", n); slotOf(name) == slot {
			if i == 0 {
				return name
			}
			i--
		}
	}
}

func mustNew(t *testing.T, me, shards int) *shard.Shard {
	t.Helper()
	s, why := shard.New(me, shards)
	if s == nil || why != api.OK {
		t.Fatalf("New(%d, %d): %v, %d", me, shards, s, why)
	}
	return s
}

// sameCmd tells whether two commands are one.
func sameCmd(a, b shard.Cmd) bool {
	return bytes.Equal(cmdBytes(a), cmdBytes(b))
}

// sameAsk tells whether two asks are one.
func sameAsk(a, b Ask) bool {
	return a.Group == b.Group && sameCmd(a.Cmd, b.Cmd)
}

// sameResult tells whether two results are one.
func sameResult(a, b shard.Result) bool {
	return a.Why == b.Why && a.Wait == b.Wait && a.Reply.Why == b.Reply.Why && a.Reply.Amount == b.Reply.Amount &&
		slices.Equal(a.Reply.Rows, b.Reply.Rows) && bytes.Equal(a.Data, b.Data)
}

// writer writes the forms as the document tells them, by the library's own numbers.
type writer struct{ b []byte }

func (w *writer) count(n int) {
	w.b = binary.AppendUvarint(w.b, uint64(n))
}

func (w *writer) int(l ...int64) {
	for _, n := range l {
		w.b = binary.AppendVarint(w.b, n)
	}
}

func (w *writer) text(l ...string) {
	for _, s := range l {
		w.count(len(s))
		w.b = append(w.b, s...)
	}
}

func (w *writer) truth(is bool) {
	if is {
		w.b = append(w.b, 1)
	} else {
		w.b = append(w.b, 0)
	}
}

// cmdBytes is a command as it is to be written.
func cmdBytes(c shard.Cmd) []byte {
	var w writer
	w.int(int64(c.Kind), int64(c.Op.Kind))
	w.text(c.Op.From, c.Op.To)
	w.int(c.Op.Amount)
	w.text(c.Op.Key)
	w.int(int64(c.Op.Slot), int64(c.Op.Shard))
	w.text(c.Id, c.Name)
	w.int(c.N, int64(c.Why), int64(c.Slot), c.Epoch, int64(c.At))
	w.truth(c.Last)
	w.text(string(c.Data))
	return w.b
}

// askBytes is an ask as it is to be written.
func askBytes(a Ask) []byte {
	var w writer
	w.int(int64(a.Group))
	w.text(string(cmdBytes(a.Cmd)))
	return w.b
}

// resultBytes is a result as it is to be written.
func resultBytes(r shard.Result) []byte {
	var w writer
	w.int(int64(r.Why))
	w.truth(r.Wait)
	w.int(int64(r.Reply.Why), r.Reply.Amount)
	w.count(len(r.Reply.Rows))
	for _, row := range r.Reply.Rows {
		w.text(row.Name)
		w.int(row.Amount)
	}
	w.text(string(r.Data))
	return w.b
}
