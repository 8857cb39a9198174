package node

import (
	"fmt"
	"reflect"
	"testing"

	"almoner/api"
	"almoner/client"
	"almoner/codec"
	"almoner/disk"
	"almoner/shard"
	"almoner/txn"
)

// Operations by what they are, in the order From, (To,) (Amount,) Key.

func open(from, key string) api.Op {
	return api.Op{Kind: api.Open, From: from, Key: key}
}

func deposit(from string, n int64, key string) api.Op {
	return api.Op{Kind: api.Deposit, From: from, Amount: n, Key: key}
}

func transfer(from, to string, n int64, key string) api.Op {
	return api.Op{Kind: api.Transfer, From: from, To: to, Amount: n, Key: key}
}

func balance(from string) api.Op {
	return api.Op{Kind: api.Balance, From: from}
}

func move(slot, to int) api.Op {
	return api.Op{Kind: api.Move, Slot: slot, Shard: to}
}

func newDisk(t *testing.T, sectors int) *disk.Disk {
	t.Helper()
	d, why := disk.New(sectors)
	if why != api.OK {
		t.Fatalf("disk.New: %d", why)
	}
	return d
}

func newNode(t *testing.T, me, n, shards int, d *disk.Disk) *Node {
	t.Helper()
	x, why := New(me, n, shards, d)
	if why != api.OK || x == nil {
		t.Fatalf("New(%d, %d, %d): %d", me, n, shards, why)
	}
	return x
}

// newAlone is a machine alone that leads all its groups.
func newAlone(t *testing.T, shards int, d *disk.Disk) *Node {
	t.Helper()
	x := newNode(t, 0, 1, shards, d)
	for range 20 {
		wantOuts(t, x.Tick())
	}
	for g := range shards + 1 {
		if info := x.Info(g); info.Role != api.Leader {
			t.Fatalf("the group %d behind twenty ticks: %+v", g, info)
		}
	}
	return x
}

func pack(t testing.TB, l client.Letter) []byte {
	t.Helper()
	b, why := client.Pack(l)
	if why != api.OK {
		t.Fatalf("Pack of %+v: %d", l, why)
	}
	return b
}

func callOf(t testing.TB, n int64, o api.Op) []byte {
	t.Helper()
	return pack(t, client.Letter{Kind: client.Call, N: n, Op: o})
}

func raftOf(t testing.TB, m api.Msg) []byte {
	t.Helper()
	b, why := codec.Msg(m)
	if why != api.OK {
		t.Fatalf("Msg of %+v: %d", m, why)
	}
	return pack(t, client.Letter{Kind: client.Raft, Body: b})
}

func askOf(t testing.TB, n int64, group int, c shard.Cmd) []byte {
	t.Helper()
	b, why := txn.Bytes(txn.Ask{Group: group, Cmd: c})
	if why != api.OK {
		t.Fatalf("Bytes of %+v: %d", c, why)
	}
	return pack(t, client.Letter{Kind: client.Ask, N: n, Body: b})
}

func answerOf(t testing.TB, n int64, group int, c shard.Cmd, r shard.Result) []byte {
	t.Helper()
	ask, why := txn.Bytes(txn.Ask{Group: group, Cmd: c})
	result, whyNot := txn.PutResult(r)
	if why != api.OK || whyNot != api.OK {
		t.Fatalf("Bytes %d, PutResult %d", why, whyNot)
	}
	return pack(t, client.Letter{Kind: client.Answer, N: n, Group: group, Body: append(codec.Bytes(nil, ask), result...)})
}

func toldOutOf(t *testing.T, to int, n int64, r api.Reply) Out {
	t.Helper()
	return Out{To: to, Data: pack(t, client.Letter{Kind: client.Told, N: n, Reply: r})}
}

func unpack(t *testing.T, b []byte) client.Letter {
	t.Helper()
	l, why := client.Unpack(b)
	if why != api.OK {
		t.Fatalf("Unpack of %x: %d", b, why)
	}
	return l
}

// messageOf is the message of a Raft letter; false of another letter.
func messageOf(t *testing.T, b []byte) (api.Msg, bool) {
	t.Helper()
	l := unpack(t, b)
	if l.Kind != client.Raft {
		return api.Msg{}, false
	}
	m, why := codec.Unmsg(l.Body)
	if why != api.OK {
		t.Fatalf("Unmsg of %x: %d", l.Body, why)
	}
	return m, true
}

// show is what is sent, to be read.
func show(t *testing.T, l []Out) string {
	t.Helper()
	s := ""
	for _, out := range l {
		if m, is := messageOf(t, out.Data); is {
			s += fmt.Sprintf("\n to %d: %+v", out.To, m)
		} else {
			s += fmt.Sprintf("\n to %d: %+v", out.To, unpack(t, out.Data))
		}
	}
	return s
}

// wantOuts asks that just this is sent.
func wantOuts(t *testing.T, got []Out, want ...Out) {
	t.Helper()
	if len(got) != len(want) || len(got) > 0 && !reflect.DeepEqual(got, want) {
		t.Fatalf("it sends:%s\nwant:%s", show(t, got), show(t, want))
	}
}

// wantTold asks that just this is told of a call of a client.
func wantTold(t *testing.T, got []Out, n int64, r api.Reply) {
	t.Helper()
	wantOuts(t, got, toldOutOf(t, -1, n, r))
}

// askAlone asks a machine alone, lets ticks go on, and answers what it tells.
func askAlone(t *testing.T, x *Node, o api.Op, ticks int) api.Reply {
	t.Helper()
	l := x.Handle(-1, callOf(t, 7, o))
	for range ticks {
		l = append(l, x.Tick()...)
	}
	if len(l) != 1 || l[0].To != -1 {
		t.Fatalf("%+v: it sends:%s", o, show(t, l))
	}
	told := unpack(t, l[0].Data)
	if told.Kind != client.Told || told.N != 7 {
		t.Fatalf("%+v: it sends:%s", o, show(t, l))
	}
	return told.Reply
}

// wantAlone asks that a machine alone tells this.
func wantAlone(t *testing.T, x *Node, o api.Op, want api.Reply) {
	t.Helper()
	if got := askAlone(t, x, o, 20); !sameReply(got, want) {
		t.Fatalf("%+v: %+v; want %+v", o, got, want)
	}
}

func sameReply(a, b api.Reply) bool {
	if len(a.Rows) == 0 && len(b.Rows) == 0 {
		a.Rows, b.Rows = nil, nil
	}
	return reflect.DeepEqual(a, b)
}

// safe is what a replica must not forget.
type safe struct {
	term  int64
	voted int
	base  int64
	of    int64 // the base's term
	log   []api.Entry
	image string // of the base
}

// safeOf is what all replicas of a machine must not forget.
func safeOf(x *Node) []safe {
	var l []safe
	for _, g := range x.groups {
		info, log := g.Info(), g.Log()
		base, of := log.Base()
		l = append(l, safe{info.Term, info.Voted, base, of, log.Part(base+1, api.MaxLog), string(g.image)})
	}
	return l
}

func sameSafe(a, b safe) bool {
	if len(a.log) == 0 && len(b.log) == 0 {
		a.log, b.log = nil, nil
	}
	return fmt.Sprintf("%+v", a) == fmt.Sprintf("%+v", b)
}
