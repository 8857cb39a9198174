package store

import (
	"bytes"
	"fmt"
	"math/rand"
	"reflect"
	"strings"
	"testing"

	"almoner/api"
	"almoner/codec"
)

// wrongPairs are pairs that can not be.
func wrongPairs() map[string]api.Pair {
	return map[string]api.Pair{
		"an empty key":          {Key: ""},
		"an empty key of a Del": {Key: "", Del: true},
		"a long key":            {Key: strings.Repeat("k", MostKey+1)},
		"a long key of a Del":   {Key: strings.Repeat("k", MostKey+1), Del: true},
		"a long value":          {Key: "k", Val: make([]byte, MostVal+1)},
		"a Del with a value":    {Key: "k", Val: []byte{0}, Del: true},
	}
}

// greatest are pairs at the edges.
func greatest() []api.Pair {
	return []api.Pair{
		{Key: strings.Repeat("k", MostKey), Val: fill(1, MostVal)},
		{Key: "\x00", Val: nil},
		{Key: strings.Repeat("\xff", MostKey), Del: true},
		{Key: "k", Val: []byte{0}},
	}
}

// sized is a batch of so many bytes, of which little is left in the end.
func sized(t *testing.T, size int) []api.Pair {
	t.Helper()
	for rest := size - 6600; ; rest++ {
		var l []api.Pair
		for i := range 4 {
			l = append(l, api.Pair{Key: "k", Val: fill(i, 1600)})
		}
		l = append(l, api.Pair{Key: "rest", Val: fill(9, rest)})
		l = append(l, batch("-rest k=end l=end")...)
		if len(mustBatch(t, l)) == size {
			return l
		}
	}
}

// P7.4: the bytes of a batch are as the chapter tells them.
func TestBatch(t *testing.T) {
	for _, c := range []struct {
		l    []api.Pair
		want string
	}{
		{nil, "00"},
		{[]api.Pair{}, "00"},
		{batch("a=1 b=2"), "02 01 61 00 01 31 01 62 00 01 32"},
		{batch("-a c=345"), "02 01 61 01 00 01 63 00 03 33 34 35"},
		{[]api.Pair{{Key: "\x00\xff", Val: make([]byte, 2)}}, "01 02 00 ff 00 02 00 00"},
		{[]api.Pair{{Key: "k", Val: []byte{}}, {Key: "k", Val: []byte{}, Del: true}}, "02 01 6b 00 00 01 6b 01 00"},
	} {
		if b, why := Batch(c.l); fmt.Sprintf("% x", b) != c.want || why != api.OK {
			t.Errorf("Batch of %v: % x, %d; want %s", c.l, b, why, c.want)
		}
	}
	many := bytes.Repeat([]byte{1, 'k', 0, 0}, 300)
	l := make([]api.Pair, 300)
	for i := range l {
		l[i].Key = "k"
	}
	if b := mustBatch(t, l); !bytes.Equal(b, append([]byte{0xac, 2}, many...)) {
		t.Errorf("Batch of 300 pairs: %x", b)
	}
}

// P7.4, P1: what Batch refuses, ErrArg ahead of ErrSize.
func TestErrorsOfBatch(t *testing.T) {
	long := numbered(5, 20, 2000)
	for name, p := range wrongPairs() {
		for _, l := range [][]api.Pair{{p}, {{Key: "a"}, p}, {p, {Key: "a"}}, append(long, p)} {
			if b, why := Batch(l); b != nil || why != api.ErrArg {
				t.Errorf("%s among %d: %x, %d", name, len(l), b, why)
			}
		}
	}
	if b, why := Batch(greatest()); len(b) == 0 || why != api.OK {
		t.Errorf("the greatest: %d bytes, %d", len(b), why)
	}
	if b, why := Batch(sized(t, 8192)); len(b) != 8192 || why != api.OK {
		t.Errorf("8192 bytes: %d, %d", len(b), why)
	}
	more := sized(t, 8192)
	more[0].Val = append(more[0].Val, 0)
	for _, l := range [][]api.Pair{more, long, make100k()} {
		if b, why := Batch(l); b != nil || why != api.ErrSize {
			t.Errorf("too long, of %d pairs: %d bytes, %d", len(l), len(b), why)
		}
	}
}

// make100k is pairs that are far too many.
func make100k() []api.Pair {
	l := make([]api.Pair, 100000)
	for i := range l {
		l[i].Key = "k"
	}
	return l
}

// P7.4, P1: what Unbatch refuses, in the order of its errors.
func TestErrorsOfUnbatch(t *testing.T) {
	for _, c := range []struct {
		b    string
		want api.Errno
	}{
		{strings.Repeat("\x00", 8193), api.ErrSize},
		{strings.Repeat("\xff", 8193), api.ErrSize},
		{strings.Repeat("\xff", 8192), api.ErrForm},
		{"", api.ErrShort},
		{"\x80", api.ErrShort},
		{"\x80\x00", api.ErrForm},
		{"\x00\x00", api.ErrForm},
		{"\x01", api.ErrShort},
		{"\x02\x01k\x00\x00", api.ErrShort},
		{"\x05\x01k\x00\x00", api.ErrShort},
		{"\x01\x01k\x00", api.ErrShort},
		{"\x01\x01k\x02\x00", api.ErrForm},
		{"\x01\x01k\x00\x02v", api.ErrShort},
		{"\x01\x05k\x00\x00", api.ErrShort},
		{"\x01\x81\x80\x04k\x00\x00", api.ErrSize},
		{"\x01\x01k\x00\x00\x00", api.ErrForm},
		{"\x01\x00\x00\x00", api.ErrArg},
		{"\x01\x00\x00\x00\x00", api.ErrForm},
		{"\x01\x01k\x01\x01v", api.ErrArg},
		{"\x02\x01k\x01\x01v\x01", api.ErrShort},
		{"\x01\x15" + strings.Repeat("k", 21) + "\x00\x00", api.ErrArg},
		{"\x01\x14" + strings.Repeat("k", 20) + "\x00\x00", api.OK},
		{"\x01\x01k\x00\xd1\x0f" + strings.Repeat("v", 2001), api.ErrArg},
		{"\x01\x01k\x00\xd0\x0f" + strings.Repeat("v", 2000), api.OK},
		{"\x00", api.OK},
	} {
		l, why := Unbatch([]byte(c.b))
		if why != c.want || why != api.OK && l != nil {
			t.Errorf("Unbatch of %.40x: %d pairs, %d; want %d", c.b, len(l), why, c.want)
		}
	}
}

// P7.8, P7: whatever is encoded is decoded as it was; cut anywhere, or with a byte more, it is refused.
func TestUnbatch(t *testing.T) {
	r := rand.New(rand.NewSource(7))
	lists := [][]api.Pair{nil, greatest(), batch("a=1 b=2 -a a=3"), sized(t, 8192)}
	for range 200 {
		lists = append(lists, randomBatch(r, 30))
	}
	for _, l := range lists {
		b := mustBatch(t, l)
		got, why := Unbatch(b)
		if why != api.OK || !samePairs(got, l) {
			t.Fatalf("Unbatch of %d pairs: %v, %d", len(l), got, why)
		}
		for cut := range min(len(b), 300) {
			if got, why := Unbatch(b[:cut]); got != nil || why != api.ErrShort {
				t.Fatalf("cut to %d bytes of %d: %v, %d", cut, len(b), got, why)
			}
		}
		if got, why := Unbatch(append(b, 0)); got != nil || why != api.ErrForm && len(b) < 8192 {
			t.Fatalf("a byte more: %v, %d", got, why)
		}
	}
}

// samePairs tells whether lists are the same, a nil value being an empty one.
func samePairs(a, b []api.Pair) bool {
	if len(a) != len(b) {
		return false
	}
	for i, p := range a {
		if p.Key != b[i].Key || p.Del != b[i].Del || !bytes.Equal(p.Val, b[i].Val) {
			return false
		}
	}
	return true
}

// randomBatch is at most so many pairs; some keys come more than once.
func randomBatch(r *rand.Rand, most int) []api.Pair {
	var l []api.Pair
	for range r.Intn(most + 1) {
		p := api.Pair{Key: fmt.Sprintf("%x", r.Intn(40)*0x1234)}
		p.Key += strings.Repeat("\xff", r.Intn(2)*(MostKey-len(p.Key)))
		if p.Del = r.Intn(3) == 0; !p.Del {
			p.Val = fill(r.Int(), r.Intn(100))
		}
		l = append(l, p)
	}
	return l
}

// P1 (rules 4, 5): neither Batch nor Unbatch changes or keeps what is handed in, and no two values share memory.
func TestBatchMemory(t *testing.T) {
	l := batch("a=11 b=22 -c")
	kept := batch("a=11 b=22 -c")
	b := mustBatch(t, l)
	if !reflect.DeepEqual(l, kept) {
		t.Error("Batch changes the list")
	}
	l[0].Val[0] = 'x'
	got, _ := Unbatch(b)
	for i := range b {
		b[i] = 0xee
	}
	_ = append(got[0].Val, "yyyyyy"...)
	if !samePairs(got, kept) {
		t.Errorf("Unbatch: %v, want %v", got, kept)
	}
	for i := range b {
		if b[i] != 0xee {
			t.Error("what is appended to a value goes into the bytes")
		}
	}
}

// FuzzUnbatch: whatever the bytes, Unbatch ends, and what it answers is written by Batch as the same bytes.
func FuzzUnbatch(f *testing.F) {
	f.Add([]byte("\x02\x01a\x00\x011\x01b\x01\x00"))
	f.Add(codec.Uint(nil, 1<<63))
	f.Fuzz(func(t *testing.T, b []byte) {
		l, why := Unbatch(b)
		if why != api.OK {
			return
		}
		if again, why := Batch(l); why != api.OK || !bytes.Equal(again, b) {
			t.Fatalf("Batch: %x, %d; want %x", again, why, b)
		}
	})
}
