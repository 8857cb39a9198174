package shard

import (
	"bytes"
	"encoding/binary"
	"fmt"
	"hash/crc32"
	"slices"
	"strings"
	"testing"

	"almoner/api"
)

// Operations by what they are, in the order From, (To,) (Amount,) Key.

func open(from, key string) api.Op {
	return api.Op{Kind: api.Open, From: from, Key: key}
}

func deposit(from string, n int64, key string) api.Op {
	return api.Op{Kind: api.Deposit, From: from, Amount: n, Key: key}
}

func withdraw(from string, n int64, key string) api.Op {
	return api.Op{Kind: api.Withdraw, From: from, Amount: n, Key: key}
}

func transfer(from, to string, n int64, key string) api.Op {
	return api.Op{Kind: api.Transfer, From: from, To: to, Amount: n, Key: key}
}

func balance(from string) api.Op {
	return api.Op{Kind: api.Balance, From: from}
}

// Commands by what they are.

func op(o api.Op) Cmd {
	return Cmd{Kind: CmdOp, Op: o}
}

func prepare(id, name string, n int64) Cmd {
	return Cmd{Kind: CmdPrepare, Id: id, Name: name, N: n}
}

func decide(id string, why api.Errno) Cmd {
	return Cmd{Kind: CmdDecide, Id: id, Why: why}
}

func finish(id, name string, why api.Errno) Cmd {
	return Cmd{Kind: CmdFinish, Id: id, Name: name, Why: why}
}

func end(id string) Cmd {
	return Cmd{Kind: CmdEnd, Id: id}
}

func freeze(epoch int64) Cmd {
	return Cmd{Kind: CmdFreeze, Epoch: epoch}
}

func thaw(epoch int64) Cmd {
	return Cmd{Kind: CmdThaw, Epoch: epoch}
}

func hold(slot int, epoch int64) Cmd {
	return Cmd{Kind: CmdHold, Slot: slot, Epoch: epoch}
}

func install(slot int, epoch int64, at int, last bool, data []byte) Cmd {
	return Cmd{Kind: CmdInstall, Slot: slot, Epoch: epoch, At: at, Last: last, Data: data}
}

func drop(slot int, epoch int64) Cmd {
	return Cmd{Kind: CmdDrop, Slot: slot, Epoch: epoch}
}

// slotOf is the slot of a name, by the library's own sum.
func slotOf(name string) int {
	return int(crc32.Checksum([]byte(name), crc32.MakeTable(crc32.Castagnoli)) % 16)
}

// named is the i-th name of a slot.
func named(slot, i int) string {
	for n := 0; ; n++ {
		if name := fmt.Sprintf("n%d", n); slotOf(name) == slot {
			if i == 0 {
				return name
			}
			i--
		}
	}
}

func mustNew(t *testing.T, me, shards int) *Shard {
	t.Helper()
	s, why := New(me, shards)
	if s == nil || why != api.OK {
		t.Fatalf("New(%d, %d): %v, %d", me, shards, s, why)
	}
	return s
}

// with is the shard 1 of some that has done operations, whatever it answered.
func with(t *testing.T, shards int, l ...api.Op) *Shard {
	t.Helper()
	s := mustNew(t, 1, shards)
	for _, o := range l {
		s.Do(op(o))
	}
	return s
}

// same tells whether two results are one.
func same(a, b Result) bool {
	return a.Why == b.Why && a.Wait == b.Wait && a.Reply.Why == b.Reply.Why && a.Reply.Amount == b.Reply.Amount &&
		slices.Equal(a.Reply.Rows, b.Reply.Rows) && bytes.Equal(a.Data, b.Data)
}

// want asks that a command has this result.
func want(t *testing.T, s *Shard, c Cmd, r Result) {
	t.Helper()
	if got := s.Do(c); !same(got, r) {
		t.Fatalf("Do %+v: %+v, want %+v", c, got, r)
	}
}

// wantWhy asks that a command is answered by this alone.
func wantWhy(t *testing.T, s *Shard, c Cmd, why api.Errno) {
	t.Helper()
	want(t, s, c, Result{Why: why})
}

// wantOp asks that an operation is answered by this alone.
func wantOp(t *testing.T, s *Shard, o api.Op, why api.Errno) {
	t.Helper()
	want(t, s, op(o), Result{Reply: api.Reply{Why: why}})
}

// wantWait asks that a transfer begins.
func wantWait(t *testing.T, s *Shard, o api.Op) {
	t.Helper()
	want(t, s, op(o), Result{Wait: true, Reply: api.Reply{Why: api.ErrRetry}})
}

// wantStill asks that a command has this result, and that nothing is changed.
func wantStill(t *testing.T, s *Shard, c Cmd, r Result) {
	t.Helper()
	was := s.Image()
	want(t, s, c, r)
	if is := s.Image(); !bytes.Equal(is, was) {
		t.Fatalf("%+v changed %x to %x", c, was, is)
	}
}

// wantRefused asks that a command is refused so, and that nothing is changed.
func wantRefused(t *testing.T, s *Shard, c Cmd, why api.Errno) {
	t.Helper()
	wantStill(t, s, c, Result{Why: why})
}

// wantOpStill asks that an operation is answered by this alone, and that nothing is changed.
func wantOpStill(t *testing.T, s *Shard, o api.Op, why api.Errno) {
	t.Helper()
	wantStill(t, s, op(o), Result{Reply: api.Reply{Why: why}})
}

// told is rows as a text.
func toldRows(rows []api.Row) string {
	var words []string
	for _, r := range rows {
		words = append(words, fmt.Sprintf("%s=%d", r.Name, r.Amount))
	}
	return strings.Join(words, " ")
}

func wantRows(t *testing.T, s *Shard, text string) {
	t.Helper()
	if got := toldRows(s.Rows()); got != text {
		t.Fatalf("Rows %s; want %s", got, text)
	}
}

// wantTxns asks that these transfers go to other shards.
func wantTxns(t *testing.T, s *Shard, l ...Txn) {
	t.Helper()
	if got := s.Pending(); !slices.Equal(got, l) {
		t.Fatalf("Pending %+v; want %+v", got, l)
	}
}

// writer writes the forms as the document tells them, by the library's own numbers.
type writer struct{ b []byte }

func (w *writer) count(n int)    { w.b = binary.AppendUvarint(w.b, uint64(n)) }
func (w *writer) int(l ...int64) { w.ints(l) }
func (w *writer) text(l ...string) {
	for _, s := range l {
		w.count(len(s))
		w.b = append(w.b, s...)
	}
}

func (w *writer) ints(l []int64) {
	for _, n := range l {
		w.b = binary.AppendVarint(w.b, n)
	}
}

func (w *writer) truth(is bool) {
	if is {
		w.b = append(w.b, 1)
	} else {
		w.b = append(w.b, 0)
	}
}

func (w *writer) op(o api.Op) {
	w.int(int64(o.Kind))
	w.text(o.From, o.To)
	w.int(o.Amount)
	w.text(o.Key)
	w.int(int64(o.Slot), int64(o.Shard))
}

// draft is what stands in an image, as it is written: none of it need be so that there can be such a shard.
type draft struct {
	me, shards          int64
	owns                [16]bool
	epoch, held         [16]int64
	accounts            []holding
	kept                []answer
	transfers           []Txn
	prepared            []awaited
	done                []part
	frozen, over, began int64
	come                [16]arrival
}

// holding is an account, and who holds it.
type holding struct {
	name   string
	amount int64
	by     string
}

// first is the draft of a shard as it is at first.
func first(me, shards int) draft {
	d := draft{me: int64(me), shards: int64(shards)}
	for slot := range 16 {
		d.owns[slot] = slot%shards == me-1
	}
	return d
}

func (w *writer) accounts(l []holding) {
	w.count(len(l))
	for _, a := range l {
		w.text(a.name)
		w.int(a.amount)
		w.text(a.by)
	}
}

func (w *writer) answers(l []answer) {
	w.count(len(l))
	for _, k := range l {
		w.op(k.op)
		w.int(int64(k.why))
	}
}

func (w *writer) parts(l []part) {
	w.count(len(l))
	for _, p := range l {
		w.text(p.id, p.name)
	}
}

// bytes is a draft as it is to be written.
func (d draft) bytes() []byte {
	var w writer
	w.int(d.me, d.shards)
	for slot := range 16 {
		w.truth(d.owns[slot])
		w.int(d.epoch[slot], d.held[slot])
	}
	w.accounts(d.accounts)
	w.answers(d.kept)
	w.count(len(d.transfers))
	for _, t := range d.transfers {
		w.text(t.Id, t.From, t.Key, t.To)
		w.int(t.N)
		w.truth(t.Done)
		w.int(int64(t.Why))
	}
	w.count(len(d.prepared))
	for _, a := range d.prepared {
		w.text(a.id, a.name)
		w.int(a.n)
	}
	w.parts(d.done)
	w.int(d.frozen, d.over, d.began)
	for slot := range 16 {
		w.int(d.come[slot].epoch)
		w.text(string(d.come[slot].data))
	}
	return w.b
}

// moved is the bytes of what moves with a slot.
func moved(accounts []holding, kept []answer, done []part) []byte {
	var w writer
	w.accounts(accounts)
	w.answers(kept)
	w.parts(done)
	return w.b
}

func mustLoad(t *testing.T, d draft) *Shard {
	t.Helper()
	s, why := Load(d.bytes())
	if s == nil || why != api.OK {
		t.Fatalf("Load of %+v: %d", d, why)
	}
	return s
}
