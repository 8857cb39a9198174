package txn

import (
	"bytes"
	"fmt"
	"math"
	"math/rand"
	"slices"
	"strings"
	"testing"

	"almoner/api"
	"almoner/shard"
)

// asksToWrite is asks of all kinds: those that there are, and such as can not be.
func asksToWrite() []Ask {
	return []Ask{
		{},
		{2, prepare("ann/k/1.1", "bob", 5)},
		{3, finish("ann/k/1.1", "bob", api.ErrRetry)},
		{0, shard.Cmd{Kind: shard.CmdFreeze, Epoch: 1 << 60}},
		{1, shard.Cmd{Kind: shard.CmdInstall, Slot: 15, Epoch: 1, At: 1000, Last: true, Data: []byte{0, 255, 128}}},
		{1, shard.Cmd{
			Kind: -7, Op: api.Op{Kind: -1, From: "\xff", To: "T", Amount: math.MinInt64, Key: "", Slot: -2, Shard: 9}, Id: "i\x00", Name: "ä",
			N: math.MaxInt64, Why: math.MinInt, Slot: math.MaxInt, Epoch: math.MinInt64, At: -1, Data: bytes.Repeat([]byte{7}, 300),
		}},
		{3, op(transfer("ann", "bob", 3, "k"))},
	}
}

// P15.3, P15.5, P7: an ask's bytes, and back.
func TestAskBytes(t *testing.T) {
	for _, a := range asksToWrite() {
		b, why := Bytes(a)
		if why != api.OK || !bytes.Equal(b, askBytes(a)) {
			t.Errorf("Bytes of %+v: %x, %d; want %x", a, b, why, askBytes(a))
		}
		if got, why := Parse(b); why != api.OK || !sameAsk(got, a) {
			t.Errorf("Parse of %x: %+v, %d; want %+v", b, got, why, a)
		}
	}
	// Bytes asks nothing of the group; Parse does.
	for _, group := range []int{-1, 4, 5, math.MinInt, math.MaxInt} {
		a := Ask{group, prepare("i", "bob", 5)}
		b, why := Bytes(a)
		if why != api.OK || !bytes.Equal(b, askBytes(a)) {
			t.Errorf("Bytes of %+v: %x, %d; want %x", a, b, why, askBytes(a))
		}
		wantNoAsk(t, b, api.ErrArg)
	}
}

// wantNoAsk asks that bytes are refused as an ask.
func wantNoAsk(t *testing.T, b []byte, why api.Errno) {
	t.Helper()
	if a, got := Parse(b); got != why || !sameAsk(a, Ask{}) || a.Cmd.Data != nil {
		t.Errorf("Parse of %d bytes, %.40x: %+v, %d; want %d", len(b), b, a, got, why)
	}
}

// askOfSize is an ask whose bytes are so many.
func askOfSize(t *testing.T, n int) Ask {
	t.Helper()
	a := Ask{3, shard.Cmd{Kind: shard.CmdInstall, Last: true, Data: make([]byte, n-30)}}
	a.Cmd.Data = make([]byte, len(a.Cmd.Data)+n-len(askBytes(a)))
	if len(askBytes(a)) != n {
		t.Fatalf("%d bytes; want %d", len(askBytes(a)), n)
	}
	return a
}

// P15.3, P15.5: the greatest ask, and one that has a byte more, whichever part of it is long.
func TestAskSize(t *testing.T) {
	a := askOfSize(t, api.MaxBytes)
	b, why := Bytes(a)
	if why != api.OK || len(b) != api.MaxBytes {
		t.Fatalf("Bytes: %d bytes, %d", len(b), why)
	}
	if got, why := Parse(b); why != api.OK || !sameAsk(got, a) {
		t.Errorf("Parse: %d", why)
	}
	long := strings.Repeat("l", api.MaxBytes)
	for _, a := range []Ask{
		askOfSize(t, api.MaxBytes+1),
		{1, shard.Cmd{Data: make([]byte, 3*api.MaxBytes)}},
		{1, shard.Cmd{Id: long}},
		{1, shard.Cmd{Name: long}},
		{1, op(open(long, "o"))},
		{1, op(open("ann", long))},
		{9, shard.Cmd{Id: long[1:], Name: "b"}},
	} {
		if b, why := Bytes(a); b != nil || why != api.ErrSize {
			t.Errorf("Bytes of %d bytes: %d bytes, %d", len(askBytes(a)), len(b), why)
		}
		wantNoAsk(t, askBytes(a), api.ErrSize)
	}
}

// P15.3, P1: what Parse refuses, and by which error where several apply.
func TestParseRefuses(t *testing.T) {
	inner := cmdBytes(prepare("i", "bob", 5))
	ask := func(group int64, inner string, behind ...byte) []byte {
		var w writer
		w.int(group)
		w.text(inner)
		return append(w.b, behind...)
	}
	for _, c := range []struct {
		b   []byte
		why api.Errno
	}{
		{nil, api.ErrShort},
		{[]byte{}, api.ErrShort},
		{[]byte{0x80}, api.ErrShort},
		{[]byte{0x80, 0x00}, api.ErrForm},
		{[]byte{0x02}, api.ErrShort},
		{[]byte{0x02, 0x05, 1, 2, 3, 4}, api.ErrShort},
		{[]byte{0x02, 0x81, 0x80, 0x04}, api.ErrSize}, // 65537 bytes are said to follow
		{[]byte{0x02, 0x00}, api.ErrShort},            // a command of no bytes
		{ask(2, string(inner), 0), api.ErrForm},
		{ask(9, string(inner), 0), api.ErrForm},
		{ask(2, string(inner[:len(inner)-1])), api.ErrShort},
		{ask(2, string(inner)+"\x00"), api.ErrForm},
		{ask(2, string(inner[:len(inner)-2])+"\x02\x00"), api.ErrForm}, // Last is neither 0 nor 1
		{ask(9, string(inner[:len(inner)-1])), api.ErrShort},
		{ask(-1, string(inner)+"\x00"), api.ErrForm},
		{ask(4, string(inner)), api.ErrArg},
		{ask(-1, string(inner)), api.ErrArg},
		{make([]byte, api.MaxBytes+1), api.ErrSize},
		{bytes.Repeat([]byte{0x80}, api.MaxBytes+1), api.ErrSize},
		{bytes.Repeat([]byte{0x80}, api.MaxBytes), api.ErrForm},
		{make([]byte, api.MaxBytes), api.ErrForm},
	} {
		wantNoAsk(t, c.b, c.why)
	}
}

// P15.5, P7: an ask that is cut anywhere is refused; a byte more behind it, too.
func TestAskCut(t *testing.T) {
	for _, a := range asksToWrite() {
		b := askBytes(a)
		for n := range b {
			wantNoAsk(t, b[:n], api.ErrShort)
		}
		wantNoAsk(t, append(slices.Clone(b), 0), api.ErrForm)
	}
}

// P15.3: an ask's bytes are shared by nobody.
func TestAskMemory(t *testing.T) {
	a := Ask{1, shard.Cmd{Kind: shard.CmdInstall, Data: []byte("data")}}
	b, _ := Bytes(a)
	a.Cmd.Data[0] = 'x'
	c, why := Parse(b)
	if why != api.OK || string(c.Cmd.Data) != "data" {
		t.Fatalf("Parse: %q, %d", c.Cmd.Data, why)
	}
	clear(b)
	if string(c.Cmd.Data) != "data" {
		t.Errorf("Parse shares the bytes: %q", c.Cmd.Data)
	}
	if d, _ := Bytes(c); !bytes.Equal(d, askBytes(Ask{1, shard.Cmd{Kind: shard.CmdInstall, Data: []byte("data")}})) {
		t.Errorf("Bytes are kept: %x", d)
	}
}

// resultsToWrite is results of all kinds.
func resultsToWrite() []shard.Result {
	rows := make([]api.Row, 600)
	for i := range rows {
		rows[i] = api.Row{Name: fmt.Sprint("n", i), Amount: int64(i) << 30}
	}
	return []shard.Result{
		{},
		{Why: api.ErrState},
		{Wait: true, Reply: api.Reply{Why: api.ErrRetry}},
		{Reply: api.Reply{Amount: math.MaxInt64}},
		{Reply: api.Reply{Rows: rows}},
		{Reply: api.Reply{Rows: rows[:1]}, Data: []byte{0}},
		{Data: make([]byte, api.MaxBytes)},
		{Why: math.MinInt, Wait: true, Reply: api.Reply{Why: -9, Amount: math.MinInt64, Rows: []api.Row{{}, {Name: "\xff\x00", Amount: -1}}}, Data: []byte("x")},
		{Reply: api.Reply{Rows: []api.Row{{Name: strings.Repeat("n", api.MaxBytes)}}}},
	}
}

// P15.3, P15.5, P7: a result's bytes, and back.
func TestResultBytes(t *testing.T) {
	for _, r := range resultsToWrite() {
		b, why := PutResult(r)
		if why != api.OK || !bytes.Equal(b, resultBytes(r)) {
			t.Errorf("PutResult of %+v: %x, %d; want %x", r, b, why, resultBytes(r))
		}
		if got, why := GetResult(b); why != api.OK || !sameResult(got, r) {
			t.Errorf("GetResult of %x: %+v, %d; want %+v", b, got, why, r)
		}
	}
}

// wantNoResult asks that bytes are refused as a result.
func wantNoResult(t *testing.T, b []byte, why api.Errno) {
	t.Helper()
	if r, got := GetResult(b); got != why || !sameResult(r, shard.Result{}) || r.Reply.Rows != nil || r.Data != nil {
		t.Errorf("GetResult of %d bytes, %.40x: %+v, %d; want %d", len(b), b, r, got, why)
	}
}

// resultOfSize is a result of sixteen rows whose bytes are so many.
func resultOfSize(t *testing.T, n int) shard.Result {
	t.Helper()
	r := shard.Result{Reply: api.Reply{Rows: make([]api.Row, 16)}}
	for i := range r.Reply.Rows[:15] {
		r.Reply.Rows[i].Name = strings.Repeat("n", api.MaxBytes)
	}
	left := n - len(resultBytes(r))
	r.Reply.Rows[15].Name = strings.Repeat("l", left-2) // its length takes two bytes more
	if len(resultBytes(r)) != n {
		t.Fatalf("%d bytes; want %d", len(resultBytes(r)), n)
	}
	return r
}

// P15.3, P15.5: the greatest result, and one that has a byte, a row, more.
func TestResultSize(t *testing.T) {
	r := resultOfSize(t, 16*api.MaxBytes)
	b, why := PutResult(r)
	if why != api.OK || len(b) != 16*api.MaxBytes {
		t.Fatalf("PutResult: %d bytes, %d", len(b), why)
	}
	if got, why := GetResult(b); why != api.OK || !sameResult(got, r) {
		t.Errorf("GetResult: %d", why)
	}
	for _, r := range []shard.Result{
		resultOfSize(t, 16*api.MaxBytes+1),
		{Data: make([]byte, api.MaxBytes+1)},
		{Reply: api.Reply{Rows: make([]api.Row, 601)}},
		{Reply: api.Reply{Rows: make([]api.Row, 601)}, Data: make([]byte, api.MaxBytes+1)},
		{Reply: api.Reply{Rows: []api.Row{{Name: strings.Repeat("n", 16*api.MaxBytes)}}}},
	} {
		if b, why := PutResult(r); b != nil || why != api.ErrSize {
			t.Errorf("PutResult of %d bytes: %d bytes, %d", len(resultBytes(r)), len(b), why)
		}
		wantNoResult(t, resultBytes(r), api.ErrSize)
	}
	// A row's name that is too long is written, and not read.
	r = shard.Result{Reply: api.Reply{Rows: []api.Row{{Name: strings.Repeat("n", api.MaxBytes+1)}}}}
	b, why = PutResult(r)
	if why != api.OK || !bytes.Equal(b, resultBytes(r)) {
		t.Errorf("PutResult: %d bytes, %d", len(b), why)
	}
	wantNoResult(t, b, api.ErrSize)
}

// P15.3, P1: what GetResult refuses, and by which error where several apply.
func TestGetResultRefuses(t *testing.T) {
	for _, c := range []struct {
		b   []byte
		why api.Errno
	}{
		{nil, api.ErrShort},
		{[]byte{0x80, 0x00}, api.ErrForm},
		{[]byte{0, 2, 0, 0, 0, 0}, api.ErrForm}, // Wait is neither 0 nor 1
		{[]byte{0, 0, 0, 0, 0}, api.ErrShort},
		{[]byte{0, 0, 0, 0, 0, 0, 0}, api.ErrForm},
		{[]byte{0, 0, 0, 0, 1, 0}, api.ErrShort},
		{[]byte{0, 0, 0, 0, 5, 0, 0}, api.ErrShort}, // five rows in two bytes
		{[]byte{0, 0, 0, 0, 0xd9, 0x04}, api.ErrSize},
		{[]byte{0, 0, 0, 0, 0, 0x81, 0x80, 0x04}, api.ErrSize},
		{[]byte{0, 0, 0, 0, 0, 0x80, 0x80, 0x04}, api.ErrShort},
		{make([]byte, 16*api.MaxBytes), api.ErrForm},
		{make([]byte, 16*api.MaxBytes+1), api.ErrSize},
		{bytes.Repeat([]byte{0x80}, 16*api.MaxBytes+1), api.ErrSize},
	} {
		wantNoResult(t, c.b, c.why)
	}
}

// P15.5, P7: a result that is cut anywhere is refused; a byte more behind it, too.
func TestResultCut(t *testing.T) {
	for _, r := range resultsToWrite() {
		b := resultBytes(r)
		step := max(1, len(b)/200)
		for n := 0; n < len(b); n += step {
			wantNoResult(t, b[:n], api.ErrShort)
		}
		wantNoResult(t, append(slices.Clone(b), 0), api.ErrForm)
	}
}

// P15.3: a result's bytes are shared by nobody.
func TestResultMemory(t *testing.T) {
	r := shard.Result{Reply: api.Reply{Rows: []api.Row{{Name: "ann", Amount: 1}}}, Data: []byte("data")}
	is := resultBytes(r)
	b, _ := PutResult(r)
	r.Data[0], r.Reply.Rows[0].Amount = 'x', 2
	c, _ := GetResult(b)
	clear(b)
	if !bytes.Equal(resultBytes(c), is) {
		t.Errorf("%+v", c)
	}
}

// someBytes is bytes that are nearly an ask's or a result's: a few of them are others, gone or more.
func someBytes(r *rand.Rand, b []byte) []byte {
	b = slices.Clone(b)
	for range r.Intn(4) {
		at := r.Intn(len(b) + 1)
		switch {
		case r.Intn(3) == 0:
			b = slices.Insert(b, at, byte(r.Intn(256)))
		case at == len(b):
		case r.Intn(2) == 0:
			b = slices.Delete(b, at, at+1)
		default:
			b[at] = byte(r.Intn(256))
		}
	}
	return b
}

// P15.5, P7, P1: whatever is read is written as the same bytes.
func TestReadAndWritten(t *testing.T) {
	r := rand.New(rand.NewSource(15))
	asks, results := asksToWrite(), resultsToWrite()[:4]
	read := 0
	for range 20000 {
		b := someBytes(r, askBytes(asks[r.Intn(len(asks))]))
		if a, why := Parse(b); why == api.OK {
			read++
			if c, why := Bytes(a); why != api.OK || !bytes.Equal(b, c) {
				t.Fatalf("Parse of %x: %+v; Bytes %x, %d", b, a, c, why)
			}
		}
		b = someBytes(r, resultBytes(results[r.Intn(len(results))]))
		if x, why := GetResult(b); why == api.OK {
			read++
			if c, why := PutResult(x); why != api.OK || !bytes.Equal(b, c) {
				t.Fatalf("GetResult of %x: %+v; PutResult %x, %d", b, x, c, why)
			}
		}
	}
	if read < 1000 {
		t.Errorf("only %d were read", read)
	}
}

// P15.5, P7, P1: as above, of any bytes.
func FuzzParse(f *testing.F) {
	for _, a := range asksToWrite() {
		f.Add(askBytes(a))
	}
	f.Fuzz(func(t *testing.T, b []byte) {
		a, why := Parse(b)
		if why != api.OK {
			return
		}
		if c, why := Bytes(a); why != api.OK || !bytes.Equal(b, c) {
			t.Errorf("Parse of %x: %+v; Bytes %x, %d", b, a, c, why)
		}
	})
}

// P15.5, P7, P1: as above, of any bytes.
func FuzzGetResult(f *testing.F) {
	for _, r := range resultsToWrite()[:4] {
		f.Add(resultBytes(r))
	}
	f.Fuzz(func(t *testing.T, b []byte) {
		r, why := GetResult(b)
		if why != api.OK {
			return
		}
		if c, why := PutResult(r); why != api.OK || !bytes.Equal(b, c) {
			t.Errorf("GetResult of %x: %+v; PutResult %x, %d", b, r, c, why)
		}
	})
}
