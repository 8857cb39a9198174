package shard

import (
	"bytes"
	"fmt"
	"math"
	"math/rand"
	"reflect"
	"strings"
	"testing"

	"almoner/api"
)

// written is a command's bytes as the document tells them.
func written(c Cmd) []byte {
	var w writer
	w.int(int64(c.Kind))
	w.op(c.Op)
	w.text(c.Id, c.Name)
	w.int(c.N, int64(c.Why), int64(c.Slot), c.Epoch, int64(c.At))
	w.truth(c.Last)
	w.text(string(c.Data))
	return w.b
}

// sameCmd tells whether two commands are one, Data being nil or empty.
func sameCmd(a, b Cmd) bool {
	if !bytes.Equal(a.Data, b.Data) {
		return false
	}
	a.Data, b.Data = nil, nil
	return reflect.DeepEqual(a, b)
}

// someCommand is any command, most of which can not be.
func someCommand(r *rand.Rand) Cmd {
	edges := []int64{0, 1, -1, 2, 15, 16, 63, -64, 64, -65, 80, 1 << 60, math.MaxInt64, math.MinInt64}
	texts := []string{"", "ann", "bob", "x/y/2.1", "\x00\xff", strings.Repeat("q", 80), strings.Repeat("q", 81), strings.Repeat("q", 300)}
	n := func() int64 { return edges[r.Intn(len(edges))] }
	text := func() string { return texts[r.Intn(len(texts))] }
	c := Cmd{
		Kind: int(n()), Op: api.Op{Kind: int(n()), From: text(), To: text(), Amount: n(), Key: text(), Slot: int(n()), Shard: int(n())},
		Id: text(), Name: text(), N: n(), Why: api.Errno(n()), Slot: int(n()), Epoch: n(), At: int(n()), Last: r.Intn(2) == 1,
		Data: []byte(text()),
	}
	if r.Intn(2) == 0 {
		c.Kind, c.Op.Kind = 1+r.Intn(10), 1+r.Intn(7)
	}
	return c
}

// P13.1, P7: a command's bytes, and back.
func TestCommandBytes(t *testing.T) {
	for _, c := range []struct {
		c    Cmd
		want string
	}{
		{Cmd{}, strings.Repeat("\x00", 17)},
		{prepare("x/y/2.1", "ann", 5), "\x04" + strings.Repeat("\x00", 7) + "\x07x/y/2.1\x03ann\x0a\x00\x00\x00\x00\x00\x00"},
		{op(transfer("ann", "bo", 300, "k")), "\x02\x08\x03ann\x02bo\xd8\x04\x01k\x00\x00" + strings.Repeat("\x00", 9)},
		{Cmd{Kind: 9, Why: 50, Slot: 3, Epoch: -1, At: 1000, Last: true, Data: []byte("\xff\x00")}, "\x12" + strings.Repeat("\x00", 10) + "\x64\x06\x01\xd0\x0f\x01\x02\xff\x00"},
	} {
		if got := Bytes(c.c); string(got) != c.want {
			t.Errorf("Bytes of %+v: %x, want %x", c.c, got, c.want)
		}
	}
	r := rand.New(rand.NewSource(1))
	for range 500 {
		c := someCommand(r)
		b := Bytes(c)
		if want := written(c); !bytes.Equal(b, want) {
			t.Fatalf("Bytes of %+v: %x, want %x", c, b, want)
		}
		if got, why := Parse(b); !sameCmd(got, c) || why != api.OK {
			t.Fatalf("Parse of %x: %+v, %d; want %+v", b, got, why, c)
		}
		cut := b[:r.Intn(len(b))]
		if got, why := Parse(cut); !sameCmd(got, Cmd{}) || why != api.ErrShort {
			t.Fatalf("Parse of %x: %+v, %d", cut, got, why)
		}
		if got, why := Parse(append(b, 0)); !sameCmd(got, Cmd{}) || why != api.ErrForm {
			t.Fatalf("Parse of %x and a byte: %+v, %d", b, got, why)
		}
	}
}

// P13.1, P1: what Parse refuses, and by which error where several apply; the greatest command that it takes.
func TestParseRefuses(t *testing.T) {
	full := install(3, 1, 0, true, make([]byte, api.MaxBytes-10))
	full.Data = full.Data[:len(full.Data)-(len(Bytes(full))-api.MaxBytes)]
	if b := Bytes(full); len(b) != api.MaxBytes {
		t.Fatalf("%d bytes", len(b))
	}
	if got, why := Parse(Bytes(full)); why != api.OK || !sameCmd(got, full) {
		t.Errorf("Parse of MaxBytes: %d", why)
	}
	over := full
	over.Data = make([]byte, len(full.Data)+1)
	zero := Bytes(Cmd{})
	for _, c := range []struct {
		what string
		b    []byte
		why  api.Errno
	}{
		{"nothing", nil, api.ErrShort},
		{"a byte more than MaxBytes", Bytes(over), api.ErrSize},
		{"a byte more than MaxBytes of no command", bytes.Repeat([]byte{0xff}, api.MaxBytes+1), api.ErrSize},
		{"MaxBytes of no command", bytes.Repeat([]byte{0xff}, api.MaxBytes), api.ErrForm},
		{"a truth 2", append(bytes.Repeat([]byte{0}, 15), 2, 0), api.ErrForm},
		{"a number in no form", append([]byte{0x82, 0}, zero[1:]...), api.ErrForm},
		{"a text too long", append([]byte{0, 0, 0x81, 0x80, 4}, zero...), api.ErrSize},
		{"data that are not there", append(bytes.Repeat([]byte{0}, 16), 1), api.ErrShort},
	} {
		if got, why := Parse(c.b); !sameCmd(got, Cmd{}) || why != c.why {
			t.Errorf("Parse of %s: %+v, %d; want %d", c.what, got, why, c.why)
		}
	}
}

// P13.1: bytes are shared by nobody.
func TestCommandMemory(t *testing.T) {
	c := install(3, 1, 0, true, []byte("data"))
	b := Bytes(c)
	c.Data[0] = 'x'
	got, _ := Parse(b)
	clear(b)
	if string(got.Data) != "data" || string(c.Data) != "xata" {
		t.Errorf("memory is shared: %q, %q", got.Data, c.Data)
	}
}

// P13.1: ids.
func TestId(t *testing.T) {
	for _, c := range []struct {
		o    api.Op
		me   int
		n    int64
		want string
	}{
		{transfer("ann", "bob", 5, "k"), 1, 1, "ann/k/1.1"},
		{transfer("ann", "bob", 5, "k"), 3, 120, "ann/k/3.120"},
		{api.Op{}, 0, 0, "//0.0"},
		{api.Op{From: "a", Key: "b"}, math.MinInt, math.MaxInt64, "a/b/-9223372036854775808.9223372036854775807"},
		{api.Op{From: "\xff/", Key: "/"}, -1, -2, "\xff////-1.-2"},
	} {
		if got := Id(c.o, c.me, c.n); got != c.want {
			t.Errorf("Id of %+v, %d, %d: %q, want %q", c.o, c.me, c.n, got, c.want)
		}
	}
	long := strings.Repeat("z", api.MaxName)
	if id := Id(open(long, long), api.MaxShards, mostBegun); len(id) > mostId {
		t.Errorf("%q has %d bytes", id, len(id))
	}
}

// P13.2, P1: kinds that there are not.
func TestNoSuchKind(t *testing.T) {
	s := with(t, 1, open("ann", "o"))
	for _, kind := range []int{math.MinInt, -1, 0, 11, 12, math.MaxInt} {
		wantRefused(t, s, Cmd{Kind: kind, Op: open("bob", "o"), Id: "x", Name: "ann", N: 1, Epoch: 1}, api.ErrArg)
	}
}

// P13.1, P1: a nil shard.
func TestNil(t *testing.T) {
	var s *Shard
	for kind := -1; kind < 13; kind++ {
		want(t, s, Cmd{Kind: kind, Op: open("ann", "o")}, Result{Why: api.ErrNil})
	}
	if s.Owns("ann") || s.Pending() != nil || s.Busy() != 0 || s.Rows() != nil || s.Frozen() != 0 || s.Image() != nil || s.Copy() != nil {
		t.Errorf("of nil: %v, %v, %d, %v, %d, %v, %v", s.Owns("ann"), s.Pending(), s.Busy(), s.Rows(), s.Frozen(), s.Image(), s.Copy())
	}
}

// P1: a shard that nobody made owns nothing; a slot may come to it.
func TestZero(t *testing.T) {
	s := &Shard{}
	wantOp(t, s, open("ann", "o"), api.ErrRetry)
	wantWhy(t, s, prepare("x", "ann", 1), api.ErrState)
	wantWhy(t, s, drop(0, 0), api.OK)
	wantWhy(t, s.Copy(), drop(0, 0), api.OK)
	data := moved([]holding{{"ann", 5, ""}}, []answer{{open("ann", "o"), api.OK}}, []part{{"x", "ann"}})
	wantWhy(t, s, install(0, 1, 0, true, data), api.OK)
	wantRows(t, s, "ann=5")
	wantOp(t, s, open("ann", "o"), api.OK)
	wantWait(t, s, transfer("ann", "bob", 5, "t"))
	wantWhy(t, s, prepare("y", "ann", 1), api.ErrRetry)
	wantTxns(t, s, Txn{Id: "ann/t/0.1", From: "ann", Key: "t", To: "bob", N: 5})
	if d, why := Load(s.Image()); d != nil || why != api.ErrForm {
		t.Errorf("Load of no shards: %v, %d", d, why)
	}
	s = &Shard{}
	wantWhy(t, s, install(0, 1, 0, true, moved([]holding{{"ann", 5, ""}}, nil, nil)), api.OK)
	wantWhy(t, s, prepare("y", "ann", 1), api.OK)
	wantWhy(t, s, finish("y", "ann", api.OK), api.OK)
	wantRows(t, s, "ann=6")
}

// P13.1: a shard as it is at first, and which there can be.
func TestNew(t *testing.T) {
	numbers := []int{math.MinInt, -1, 0, 1, 2, 3, 4, 5, math.MaxInt}
	for _, me := range numbers {
		for _, shards := range numbers {
			s, why := New(me, shards)
			if shards < 1 || shards > 3 || me < 1 || me > shards {
				if s != nil || why != api.ErrArg {
					t.Errorf("New(%d, %d): %v, %d", me, shards, s, why)
				}
				continue
			}
			if why != api.OK || !bytes.Equal(s.Image(), first(me, shards).bytes()) {
				t.Errorf("New(%d, %d): %d, %x", me, shards, why, s.Image())
			}
			for n := range 100 {
				name := fmt.Sprint("n", n)
				if s.Owns(name) != (slotOf(name)%shards == me-1) {
					t.Errorf("the shard %d of %d owns %s: %v", me, shards, name, s.Owns(name))
				}
			}
			if s.Pending() != nil || s.Busy() != 0 || s.Rows() != nil || s.Frozen() != 0 {
				t.Errorf("New(%d, %d): %v, %d, %v, %d", me, shards, s.Pending(), s.Busy(), s.Rows(), s.Frozen())
			}
		}
	}
	if s := mustNew(t, 1, 1); !s.Owns("") || !s.Owns("A b\xff") || !s.Owns(strings.Repeat("x", 100000)) {
		t.Error("a text that is no name has a slot, too")
	}
}
