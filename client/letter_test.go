package client

import (
	"bytes"
	"fmt"
	"math"
	"math/rand"
	"slices"
	"strings"
	"testing"

	"almoner/api"
)

// someOp and someReply are an operation and an answer that have something everywhere.
var (
	someOp    = api.Op{Kind: api.Transfer, From: "ann", To: "bob", Amount: 300, Key: "k", Slot: -1, Shard: 2}
	someReply = api.Reply{Why: api.ErrOver, Amount: -5, Rows: []api.Row{{Name: "ann", Amount: 3}, {Name: "", Amount: math.MinInt64}}}
)

// letters is letters of all kinds that have nothing but what counts: ordinary ones, and such as can not be.
func letters() []Letter {
	rows := make([]api.Row, 600)
	for i := range rows {
		rows[i] = api.Row{Name: fmt.Sprint("n", i), Amount: int64(i) << 40}
	}
	long := strings.Repeat("l", api.MaxBytes)
	return []Letter{
		{Kind: Raft},
		{Kind: Raft, Body: []byte{0}},
		{Kind: Raft, Body: []byte("message")},
		{Kind: Raft, Body: []byte(long)},
		{Kind: Call},
		{Kind: Call, N: 1999, Op: someOp},
		{Kind: Call, N: math.MinInt64, Op: api.Op{Kind: math.MinInt, From: "\xff\x00", To: "Ä", Amount: math.MinInt64, Key: "K", Slot: math.MaxInt, Shard: math.MinInt}},
		{Kind: Call, N: math.MaxInt64, Op: api.Op{From: long, To: long, Key: long}},
		{Kind: Told},
		{Kind: Told, N: 3, Reply: someReply},
		{Kind: Told, N: -1, Reply: api.Reply{Why: math.MinInt, Amount: math.MaxInt64, Rows: rows}},
		{Kind: Told, Reply: api.Reply{Rows: make([]api.Row, 600)}},
		{Kind: Told, Reply: api.Reply{Rows: []api.Row{{Name: long}, {Name: long}}}},
		{Kind: Ask},
		{Kind: Ask, N: 2, Body: []byte("ask")},
		{Kind: Ask, N: math.MaxInt64, Body: []byte(long)},
		{Kind: Answer},
		{Kind: Answer, N: 2, Group: 1, Body: []byte("answer")},
		{Kind: Answer, N: -64, Group: math.MinInt, Body: []byte{255}},
		{Kind: Answer, N: math.MinInt64, Group: math.MaxInt, Body: []byte(long)},
	}
}

// P18.1: the chapter's example, and the numbers of the kinds.
func TestExample(t *testing.T) {
	x := Letter{Kind: Told, N: 3, Reply: api.Reply{Why: api.ErrFunds}}
	b := []byte{0x06, 0x06, 0x54, 0x00, 0x00}
	wantPacked(t, x, b)
	wantLetter(t, b, x)
	if Raft != 1 || Call != 2 || Told != 3 || Ask != 4 || Answer != 5 {
		t.Error("the kinds have other numbers")
	}
}

// P18.1, P18.3: each kind, byte by byte.
func TestForms(t *testing.T) {
	all := Letter{N: 5, Group: 6, Op: someOp, Reply: someReply, Body: []byte("xy")}
	for kind, want := range map[int]string{
		Raft:   "\x02\x02xy",
		Call:   "\x04\x0a\x08\x03ann\x03bob\xd8\x04\x01k\x01\x04",
		Told:   "\x06\x0a\x56\x09\x02\x03ann\x06\x00\xff\xff\xff\xff\xff\xff\xff\xff\xff\x01",
		Ask:    "\x08\x0a\x02xy",
		Answer: "\x0a\x0a\x0c\x02xy",
	} {
		all.Kind = kind
		wantPacked(t, all, []byte(want))
	}
}

// P18.1, P18.3, P7: what is packed is unpacked as it was.
func TestBackAndForth(t *testing.T) {
	for _, x := range letters() {
		b := letterBytes(x)
		wantPacked(t, x, b)
		wantLetter(t, b, x)
	}
}

// P18.1, P18.3: what does not count is not written, however long it is, and comes back as 0.
func TestWhatDoesNotCount(t *testing.T) {
	long := strings.Repeat("l", api.MaxBytes+1)
	other := Letter{
		N:     -7,
		Group: 9,
		Op:    api.Op{Kind: 3, From: long, To: long, Amount: 1, Key: long, Slot: 1, Shard: 1},
		Reply: api.Reply{Why: 1, Amount: 2, Rows: slices.Repeat([]api.Row{{Name: long, Amount: 1}}, 601)},
		Body:  make([]byte, api.MaxBytes+1),
	}
	for _, x := range letters() {
		y := other
		y.Kind = x.Kind
		switch x.Kind {
		case Raft:
			y.Body = x.Body
		case Call:
			y.N, y.Op = x.N, x.Op
		case Told:
			y.N, y.Reply = x.N, x.Reply
		case Ask:
			y.N, y.Body = x.N, x.Body
		case Answer:
			y.N, y.Group, y.Body = x.N, x.Group, x.Body
		}
		wantPacked(t, y, letterBytes(x))
		b, _ := Pack(y)
		wantLetter(t, b, x)
	}
}

// P18.1, P1: kinds that there are not, ahead of what is too long.
func TestNoKind(t *testing.T) {
	for _, kind := range []int{math.MinInt, -1, 0, 6, 7, 64, math.MaxInt} {
		x := Letter{Kind: kind, N: 3, Op: someOp, Reply: someReply, Body: []byte("x")}
		wantNotPacked(t, x, api.ErrArg)
		x.Body = make([]byte, api.MaxBytes+1)
		x.Reply.Rows = make([]api.Row, 601)
		x.Op.Key = strings.Repeat("l", api.MaxBytes+1)
		wantNotPacked(t, x, api.ErrArg)
		var w writer
		w.int(int64(kind))
		wantNoLetter(t, w.b, api.ErrArg)
		// Whatever stands behind.
		wantNoLetter(t, append(w.b, 0), api.ErrArg)
		wantNoLetter(t, append(w.b, 0x80, 0x00), api.ErrArg)
		wantNoLetter(t, append(w.b, 0x80), api.ErrArg)
	}
}

// P18.1: each part is as long as it may be, and a byte, or a row, longer.
func TestSizes(t *testing.T) {
	text := func(n int) string { return strings.Repeat("t", n) }
	for _, of := range []func(n int) Letter{
		func(n int) Letter { return Letter{Kind: Raft, Body: make([]byte, n)} },
		func(n int) Letter { return Letter{Kind: Ask, N: 1, Body: make([]byte, n)} },
		func(n int) Letter { return Letter{Kind: Answer, N: 1, Group: 2, Body: make([]byte, n)} },
		func(n int) Letter { return Letter{Kind: Call, Op: api.Op{From: text(n)}} },
		func(n int) Letter { return Letter{Kind: Call, Op: api.Op{To: text(n)}} },
		func(n int) Letter { return Letter{Kind: Call, Op: api.Op{Key: text(n)}} },
		func(n int) Letter { return Letter{Kind: Told, Reply: api.Reply{Rows: []api.Row{{Name: text(n)}}}} },
		func(n int) Letter {
			return Letter{Kind: Told, Reply: api.Reply{Rows: []api.Row{{Name: "a"}, {Name: text(n)}}}}
		},
	} {
		x := of(api.MaxBytes)
		wantPacked(t, x, letterBytes(x))
		wantLetter(t, letterBytes(x), x)
		for _, n := range []int{api.MaxBytes + 1, 3 * api.MaxBytes, 17 * api.MaxBytes} {
			x = of(n)
			wantNotPacked(t, x, api.ErrSize)
			wantNoLetter(t, letterBytes(x), api.ErrSize)
		}
	}
	for _, n := range []int{601, 602, 70000} {
		x := Letter{Kind: Told, Reply: api.Reply{Rows: make([]api.Row, n)}}
		wantNotPacked(t, x, api.ErrSize)
		wantNoLetter(t, letterBytes(x), api.ErrSize)
	}
}

// toldOfSize is a Told of sixteen rows whose bytes are so many.
func toldOfSize(t *testing.T, n int) Letter {
	t.Helper()
	x := Letter{Kind: Told, N: 70, Reply: api.Reply{Rows: make([]api.Row, 16)}}
	for i := range x.Reply.Rows[:15] {
		x.Reply.Rows[i].Name = strings.Repeat("n", api.MaxBytes)
	}
	left := n - len(letterBytes(x))
	x.Reply.Rows[15].Name = strings.Repeat("l", left-2) // its length takes two bytes more
	if len(letterBytes(x)) != n {
		t.Fatalf("%d bytes; want %d", len(letterBytes(x)), n)
	}
	return x
}

// P18.1, P18.3: a letter of as many bytes as there may be, and of one more, each part of which is short enough.
func TestSizeOfAll(t *testing.T) {
	x := toldOfSize(t, 16*api.MaxBytes)
	wantPacked(t, x, letterBytes(x))
	wantLetter(t, letterBytes(x), x)
	x = toldOfSize(t, 16*api.MaxBytes+1)
	wantNotPacked(t, x, api.ErrSize)
	wantNoLetter(t, letterBytes(x), api.ErrSize)
	x.Reply.Rows = slices.Repeat([]api.Row{{Name: strings.Repeat("n", api.MaxBytes)}}, 600)
	wantNotPacked(t, x, api.ErrSize)
}

// P18.1, P1: what Unpack refuses, and by which error where several apply.
func TestUnpackRefuses(t *testing.T) {
	for _, c := range []struct {
		b   []byte
		why api.Errno
	}{
		{nil, api.ErrShort},
		{[]byte{}, api.ErrShort},
		{[]byte{0x80}, api.ErrShort},
		{[]byte{0x80, 0x00}, api.ErrForm},
		{[]byte{0x80, 0x00, 0x00}, api.ErrForm},
		{[]byte{0x82, 0x00}, api.ErrForm}, // Raft, a byte too long
		{bytes.Repeat([]byte{0xff}, 9), api.ErrShort},
		{bytes.Repeat([]byte{0xff}, 10), api.ErrForm},
		{[]byte{0x00}, api.ErrArg},
		{[]byte{0x01}, api.ErrArg}, // -1
		{[]byte{0x0c}, api.ErrArg},
		{[]byte{0x03}, api.ErrArg}, // -2
		{append(bytes.Repeat([]byte{0xff}, 9), 1), api.ErrArg},
		{[]byte{0x02}, api.ErrShort},
		{[]byte{0x02, 0x01}, api.ErrShort},
		{[]byte{0x02, 0x00, 0x00}, api.ErrForm},
		{[]byte{0x02, 0x81, 0x80, 0x04}, api.ErrSize}, // 65537 bytes are said to follow
		{[]byte{0x02, 0x80, 0x80, 0x04}, api.ErrShort},
		{[]byte{0x02, 0x80, 0x00}, api.ErrForm},
		{[]byte{0x04, 0x80, 0x00}, api.ErrForm},
		{[]byte{0x04, 0x00, 0x00, 0x00, 0x00, 0x00, 0x00, 0x00}, api.ErrShort},
		{[]byte{0x04, 0x00, 0x00, 0x81, 0x80, 0x04}, api.ErrSize},
		{[]byte{0x04, 0x00, 0x00, 0x00, 0x00, 0x00, 0x00, 0x00, 0x00, 0x00}, api.ErrForm},
		{[]byte{0x06, 0x00, 0x00, 0x00}, api.ErrShort},
		{[]byte{0x06, 0x00, 0x00, 0x00, 0xd9, 0x04}, api.ErrSize},  // 601 rows
		{[]byte{0x06, 0x00, 0x00, 0x00, 0xd8, 0x04}, api.ErrShort}, // 600 rows in no bytes
		{[]byte{0x06, 0x00, 0x00, 0x00, 0x01, 0x00}, api.ErrShort},
		{[]byte{0x06, 0x00, 0x00, 0x00, 0x01, 0x81, 0x80, 0x04}, api.ErrSize},
		{[]byte{0x06, 0x06, 0x54, 0x00, 0x00, 0x00}, api.ErrForm},
		{[]byte{0x08}, api.ErrShort},
		{[]byte{0x08, 0x02}, api.ErrShort},
		{[]byte{0x08, 0x02, 0x81, 0x80, 0x04}, api.ErrSize},
		{[]byte{0x08, 0x02, 0x00, 0x00}, api.ErrForm},
		{[]byte{0x0a, 0x02, 0x02}, api.ErrShort},
		{[]byte{0x0a, 0x02, 0x82, 0x00, 0x00}, api.ErrForm},
		{[]byte{0x0a, 0x02, 0x02, 0x81, 0x80, 0x04}, api.ErrSize},
		{[]byte{0x0a, 0x02, 0x02, 0x00, 0x07}, api.ErrForm},
		{make([]byte, 16*api.MaxBytes), api.ErrArg},
		{make([]byte, 16*api.MaxBytes+1), api.ErrSize},
		{bytes.Repeat([]byte{0x80}, 16*api.MaxBytes), api.ErrForm},
		{bytes.Repeat([]byte{0x80}, 16*api.MaxBytes+1), api.ErrSize},
		{append([]byte{0x02, 0x00}, make([]byte, 16*api.MaxBytes)...), api.ErrSize},
	} {
		wantNoLetter(t, c.b, c.why)
	}
}

// P18.3, P7: a letter that is cut anywhere is refused; a byte more behind it, too.
func TestCut(t *testing.T) {
	for _, x := range letters() {
		b := letterBytes(x)
		step := max(1, len(b)/150)
		for n := 0; n < len(b); n += step {
			wantNoLetter(t, b[:n], api.ErrShort)
		}
		wantNoLetter(t, b[:len(b)-1], api.ErrShort)
		wantNoLetter(t, append(slices.Clone(b), 0), api.ErrForm)
	}
}

// P18.1: what is packed and unpacked is shared by nobody.
func TestLetterMemory(t *testing.T) {
	for _, x := range []Letter{
		{Kind: Raft, Body: []byte("body")},
		{Kind: Told, Reply: api.Reply{Rows: []api.Row{{Name: "ann", Amount: 1}, {Name: "bob", Amount: 2}}}},
		{Kind: Ask, Body: []byte("body")},
		{Kind: Answer, Body: []byte("body")},
	} {
		want := letterBytes(x)
		b, _ := Pack(x)
		if !bytes.Equal(letterBytes(x), want) {
			t.Fatalf("Pack changed what was handed in: %+v", x)
		}
		clear(x.Body)
		clear(x.Reply.Rows)
		if !bytes.Equal(b, want) {
			t.Errorf("Pack shares what was handed in: %x", b)
		}
		y, _ := Unpack(b)
		z, _ := Unpack(b)
		if !bytes.Equal(b, want) {
			t.Errorf("Unpack changed what was handed in: %x", b)
		}
		clear(b)
		clear(z.Body)
		clear(z.Reply.Rows)
		if !bytes.Equal(letterBytes(y), want) {
			t.Errorf("Unpack shares what was handed in, or answered: %+v", y)
		}
	}
}

// changed is bytes a few of which are others, gone or more.
func changed(r *rand.Rand, b []byte) []byte {
	b = slices.Clone(b)
	for range r.Intn(4) {
		at := r.Intn(len(b) + 1)
		switch {
		case r.Intn(3) == 0:
			b = slices.Insert(b, at, byte(r.Intn(256)))
		case at == len(b):
		case r.Intn(2) == 0:
			b = slices.Delete(b, at, at+1)
		default:
			b[at] = byte(r.Intn(256))
		}
	}
	return b
}

// wantSameBytes asks that bytes, if they are a letter, are packed as they were, and tells whether they are.
func wantSameBytes(t *testing.T, b []byte) bool {
	t.Helper()
	x, why := Unpack(b)
	if why != api.OK {
		if !sameLetter(x, Letter{}) {
			t.Errorf("Unpack of %x: %+v, %d", b, x, why)
		}
		return false
	}
	if !bytes.Equal(letterBytes(x), b) {
		t.Errorf("Unpack of %x: %+v", b, x)
	}
	wantPacked(t, x, b)
	return true
}

// P18.3, P7, P1: Pack of what Unpack answers is the same bytes.
func TestReadAndWritten(t *testing.T) {
	r := rand.New(rand.NewSource(18))
	var short [][]byte
	for _, x := range letters() {
		if b := letterBytes(x); len(b) < 200 {
			short = append(short, b)
		}
	}
	read := 0
	for range 50000 {
		if wantSameBytes(t, changed(r, short[r.Intn(len(short))])) {
			read++
		}
	}
	if read < 5000 {
		t.Errorf("only %d were read", read)
	}
}

// P18.3, P7, P1: as above, of any bytes.
func FuzzUnpack(f *testing.F) {
	for _, x := range letters() {
		if b := letterBytes(x); len(b) < 200 {
			f.Add(b)
		}
	}
	f.Fuzz(func(t *testing.T, b []byte) { wantSameBytes(t, b) })
}

// P18.1: the group of an operation goes by its kind alone.
func TestGroup(t *testing.T) {
	want := map[int]int{api.Audit: 0, api.Move: 0}
	for _, kind := range []int{math.MinInt, -7, -6, -1, 0, api.Open, api.Deposit, api.Withdraw, api.Transfer, api.Balance, api.Audit, api.Move, 8, math.MaxInt} {
		group, is := want[kind]
		if !is {
			group = -1
		}
		for _, o := range []api.Op{{}, someOp, {Slot: 3, Shard: 1}, {From: "no name"}} {
			if o.Kind = kind; Group(o) != group {
				t.Errorf("Group(%+v): %d; want %d", o, Group(o), group)
			}
		}
	}
}
