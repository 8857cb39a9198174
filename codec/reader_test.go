package codec

import (
	"bytes"
	"math"
	"math/rand"
	"testing"

	"almoner/api"
)

// reads are the Reader's reads by name: what each answers, and whether that is nothing.
func reads(most int) map[string]func(r *Reader) bool {
	return map[string]func(r *Reader) bool{
		"Uint":     func(r *Reader) bool { return r.Uint() == 0 },
		"Int":      func(r *Reader) bool { return r.Int() == 0 },
		"Bytes":    func(r *Reader) bool { return len(r.Bytes()) == 0 },
		"Text":     func(r *Reader) bool { return r.Text() == "" },
		"Bool":     func(r *Reader) bool { return !r.Bool() },
		"Count":    func(r *Reader) bool { return r.Count(most) == 0 },
		"GetOp":    func(r *Reader) bool { return GetOp(r) == api.Op{} },
		"GetReply": func(r *Reader) bool { return sameReply(GetReply(r), api.Reply{}) },
	}
}

// checkStuck asks that a Reader that has met an error answers nothing and stays where it is.
func checkStuck(t *testing.T, what string, r *Reader, at int, why api.Errno) {
	t.Helper()
	for name, read := range reads(math.MaxInt) {
		if !read(r) {
			t.Errorf("%s: %s answered something behind an error", what, name)
		}
		if r.At() != at || r.End() != why {
			t.Errorf("%s: behind %s at %d with %d, want %d with %d", what, name, r.At(), r.End(), at, why)
		}
	}
}

// P2.2: what each read refuses, by which error, and where it stays.
func TestReadsRefuse(t *testing.T) {
	const most = 3
	long := Uint(nil, api.MaxBytes+1)
	for _, c := range []struct {
		read string
		b    string
		why  api.Errno
	}{
		{"Uint", "", api.ErrShort},
		{"Uint", "80", api.ErrShort},
		{"Uint", "ff ff", api.ErrShort},
		{"Uint", "80 80 80 80 80 80 80 80 80", api.ErrShort},
		{"Uint", "80 00", api.ErrForm},
		{"Uint", "81 00", api.ErrForm},
		{"Uint", "80 80 00", api.ErrForm},
		{"Uint", "80 80 80 80 80 80 80 80 80 00", api.ErrForm},
		{"Uint", "80 80 80 80 80 80 80 80 80 02", api.ErrForm},
		{"Uint", "80 80 80 80 80 80 80 80 80 7f", api.ErrForm},
		{"Uint", "80 80 80 80 80 80 80 80 80 80", api.ErrForm},
		{"Uint", "80 80 80 80 80 80 80 80 80 81 01", api.ErrForm},
		{"Uint", "ff ff ff ff ff ff ff ff ff ff ff", api.ErrForm},
		{"Int", "", api.ErrShort},
		{"Int", "ff", api.ErrShort},
		{"Int", "ff 00", api.ErrForm},
		{"Int", "ff ff ff ff ff ff ff ff ff 02", api.ErrForm},
		{"Bool", "", api.ErrShort},
		{"Bool", "02", api.ErrForm},
		{"Bool", "80", api.ErrForm},
		{"Bool", "ff 01", api.ErrForm},
		{"Bytes", "", api.ErrShort},
		{"Bytes", "80", api.ErrShort},
		{"Bytes", "81 00 61", api.ErrForm},
		{"Bytes", "02 61", api.ErrShort},
		{"Bytes", "01", api.ErrShort},
		{"Bytes", "81 80 04", api.ErrSize},
		{"Bytes", "80 80 04", api.ErrShort},
		{"Bytes", "ff ff ff ff ff ff ff ff ff 01", api.ErrSize},
		{"Text", "", api.ErrShort},
		{"Text", "81 00 61", api.ErrForm},
		{"Text", "03 61 62", api.ErrShort},
		{"Text", "81 80 04", api.ErrSize},
		{"Text", "80 80 04", api.ErrShort},
		{"Text", "ff ff ff ff ff ff ff ff ff 01", api.ErrSize},
		{"Count", "", api.ErrShort},
		{"Count", "83 00 00 00 00", api.ErrForm},
		{"Count", "04 00 00 00 00", api.ErrSize},
		{"Count", "04", api.ErrSize},
		{"Count", "03 00 00", api.ErrShort},
		{"Count", "01", api.ErrShort},
		{"Count", "ff ff ff ff ff ff ff ff ff 01", api.ErrSize},
	} {
		for _, ahead := range []int{0, 1, 5} {
			r := NewReader(append(make([]byte, ahead), fromHex(t, c.b)...))
			for range ahead {
				r.Uint()
			}
			if !reads(most)[c.read](r) {
				t.Errorf("%s of %s answered something", c.read, c.b)
			}
			if r.At() != ahead || r.End() != c.why {
				t.Errorf("%s of %s behind %d: at %d with %d, want %d", c.read, c.b, ahead, r.At(), r.End(), c.why)
			}
			checkStuck(t, c.read+" of "+c.b, r, ahead, c.why)
		}
	}
	for _, name := range []string{"Bytes", "Text"} {
		r := NewReader(append(bytes.Clone(long), make([]byte, api.MaxBytes+1)...))
		if !reads(0)[name](r) || r.End() != api.ErrSize || r.At() != 0 {
			t.Errorf("%s of MaxBytes + 1 that are there: at %d with %d", name, r.At(), r.End())
		}
	}
}

// P2.2: reads pass over just what they read.
func TestReaderGoesOn(t *testing.T) {
	r := NewReader(fromHex(t, "ac02 01 0261 62 01 63 01 00 02 05 06"))
	if n := r.Uint(); n != 300 || r.At() != 2 {
		t.Error("Uint", n, r.At())
	}
	if r.End() != api.ErrForm {
		t.Error("End with bytes left", r.End())
	}
	if n := r.Int(); n != -1 || r.At() != 3 {
		t.Error("Int", n, r.At())
	}
	if p := r.Bytes(); string(p) != "ab" || r.At() != 6 {
		t.Errorf("Bytes %q %d", p, r.At())
	}
	if s := r.Text(); s != "c" || r.At() != 8 {
		t.Errorf("Text %q %d", s, r.At())
	}
	if !r.Bool() || r.Bool() || r.At() != 10 {
		t.Error("Bool", r.At())
	}
	if n := r.Count(2); n != 2 || r.At() != 11 {
		t.Error("Count", n, r.At())
	}
	if r.Uint() != 5 || r.Uint() != 6 || r.End() != api.OK || r.At() != 13 {
		t.Error("the rest", r.At(), r.End())
	}
	if r.Uint() != 0 || r.End() != api.ErrShort || r.At() != 13 {
		t.Error("behind the end", r.At(), r.End())
	}
}

// P2.2: End tells that bytes are left, and a read behind it goes on.
func TestEndIsNoRead(t *testing.T) {
	r := NewReader([]byte{1})
	if r.End() != api.ErrForm || r.Uint() != 1 || r.End() != api.OK {
		t.Error("End", r.End())
	}
}

// P2.2: Count at the edges of most and of what is left.
func TestCount(t *testing.T) {
	for _, c := range []struct {
		b    string
		most int
		want int
		why  api.Errno
	}{
		{"00", 0, 0, api.OK},
		{"00", 600, 0, api.OK},
		{"00", -1, 0, api.ErrSize},
		{"00", math.MinInt, 0, api.ErrSize},
		{"01 00", 0, 0, api.ErrSize},
		{"01 00", 1, 1, api.OK},
		{"01 00", math.MaxInt, 1, api.OK},
		{"02 00", math.MaxInt, 0, api.ErrShort},
		{"02 00 00", 2, 2, api.OK},
		{"02 00 00", 1, 0, api.ErrSize},
		{"02 00", 1, 0, api.ErrSize},
		{"ff ff ff ff ff ff ff ff ff 01", math.MaxInt, 0, api.ErrSize},
		{"ff ff ff ff ff ff ff ff 7f", math.MaxInt, 0, api.ErrShort},
		{"80", -1, 0, api.ErrShort},
	} {
		r := NewReader(fromHex(t, c.b))
		got := r.Count(c.most)
		for range got {
			r.Uint()
		}
		if got != c.want || r.End() != c.why {
			t.Errorf("Count(%d) of %s: %d with %d, want %d with %d", c.most, c.b, got, r.End(), c.want, c.why)
		}
	}
}

// P2.2, P1: a nil Reader answers nothing; the zero one has no bytes.
func TestNilReader(t *testing.T) {
	var none *Reader
	checkStuck(t, "nil", none, 0, api.ErrNil)
	var empty Reader
	if empty.End() != api.OK || empty.At() != 0 {
		t.Error("the zero Reader", empty.At(), empty.End())
	}
	for _, b := range [][]byte{nil, {}} {
		r := NewReader(b)
		if r.End() != api.OK || r.Uint() != 0 || r.End() != api.ErrShort {
			t.Error("a Reader of nothing", r.End())
		}
	}
}

// P2.2: a Reader has a copy, and no two answers share memory.
func TestReaderCopies(t *testing.T) {
	b := fromHex(t, "02 6162 02 6364")
	r := NewReader(b)
	clear(b)
	first := r.Bytes()
	if string(first) != "ab" {
		t.Fatalf("the Reader kept what it was given: %q", first)
	}
	_ = append(first, "zzzzzz"...)
	second := r.Bytes()
	if string(second) != "cd" {
		t.Fatalf("an answer that was appended to is seen: %q", second)
	}
	clear(second)
	if string(first) != "ab" || r.End() != api.OK {
		t.Fatalf("two answers share memory: %q", first)
	}
	if !bytes.Equal(b, make([]byte, 6)) {
		t.Fatalf("the Reader wrote into what it was given: %x", b)
	}
}

// P1, P2.2, P7: a number that is read has just one form, at any bytes.
func TestNumbersHaveOneForm(t *testing.T) {
	r := rand.New(rand.NewSource(3))
	for range 20000 {
		b := someBytes(r, r.Intn(12))
		for i := range b {
			if r.Intn(4) > 0 {
				b[i] |= 0x80
			}
		}
		in := NewReader(b)
		n := in.Uint()
		if in.At() == 0 {
			checkStuck(t, "any bytes", in, 0, in.End())
		} else if got := Uint(nil, n); !bytes.Equal(got, b[:in.At()]) {
			t.Fatalf("Uint of %x: %d, which is written %x", b, n, got)
		}
	}
}

// P2.4: of an operation that is cut, all reads ahead of the one that met the error answer what they read; it stays where that one began.
func TestCutOp(t *testing.T) {
	whole := api.Op{Kind: 300, From: "ann", To: "bob", Amount: 300, Key: "key", Slot: 3, Shard: 2}
	b := PutOp(nil, whole)
	steps := []struct {
		at   int
		took func(o *api.Op)
	}{
		{2, func(o *api.Op) { o.Kind = whole.Kind }},
		{6, func(o *api.Op) { o.From = whole.From }},
		{10, func(o *api.Op) { o.To = whole.To }},
		{12, func(o *api.Op) { o.Amount = whole.Amount }},
		{16, func(o *api.Op) { o.Key = whole.Key }},
		{17, func(o *api.Op) { o.Slot = whole.Slot }},
	}
	for n := range len(b) {
		want, at := api.Op{}, 0
		for _, s := range steps {
			if s.at <= n {
				s.took(&want)
				at = s.at
			}
		}
		r := NewReader(b[:n])
		if got := GetOp(r); got != want || r.At() != at || r.End() != api.ErrShort {
			t.Errorf("GetOp of %d bytes: %v, at %d with %d, want %v at %d", n, got, r.At(), r.End(), want, at)
		}
	}
}

// P2.4: of an answer that is cut, too; it has as many rows as Count told, those behind the error being empty.
func TestCutReply(t *testing.T) {
	ann, bob := api.Row{Name: "ann", Amount: 1}, api.Row{Name: "bob", Amount: 300}
	b := PutReply(nil, api.Reply{Why: 300, Amount: 301, Rows: []api.Row{ann, bob}})
	half := api.Row{Name: "bob"}
	steps := []struct {
		from, at int
		want     api.Reply
	}{
		{0, 0, api.Reply{}},
		{2, 2, api.Reply{Why: 300}},
		{4, 4, api.Reply{Why: 300, Amount: 301}},
		// The rows' number needs as many bytes behind it.
		{7, 5, api.Reply{Why: 300, Amount: 301, Rows: make([]api.Row, 2)}},
		{9, 9, api.Reply{Why: 300, Amount: 301, Rows: []api.Row{{Name: "ann"}, {}}}},
		{10, 10, api.Reply{Why: 300, Amount: 301, Rows: []api.Row{ann, {}}}},
		{14, 14, api.Reply{Why: 300, Amount: 301, Rows: []api.Row{ann, half}}},
	}
	for n := range len(b) {
		c := steps[0]
		for _, s := range steps {
			if s.from <= n {
				c = s
			}
		}
		r := NewReader(b[:n])
		if got := GetReply(r); !sameReply(got, c.want) || r.At() != c.at || r.End() != api.ErrShort {
			t.Errorf("GetReply of %d bytes: %v, at %d with %d, want %v at %d", n, got, r.At(), r.End(), c.want, c.at)
		}
	}
}

// P2.4, P2.2: a read within an operation or an answer that meets another error than ErrShort leaves what stands ahead of it, too.
func TestWrongOpAndReply(t *testing.T) {
	for _, c := range []struct {
		b    string
		want api.Op
		at   int
		why  api.Errno
	}{
		{"81 00", api.Op{}, 0, api.ErrForm},
		{"03 81 80 04", api.Op{Kind: -2}, 1, api.ErrSize},
		{"03 01 61 81 00 62 04 01 6b 00 00", api.Op{Kind: -2, From: "a"}, 3, api.ErrForm},
		{"03 01 61 01 62 ff ff ff ff ff ff ff ff ff 02", api.Op{Kind: -2, From: "a", To: "b"}, 5, api.ErrForm},
		{"03 00 00 01 00 02 80 00", api.Op{Kind: -2, Amount: -1, Slot: 1}, 6, api.ErrForm},
	} {
		r := NewReader(fromHex(t, c.b))
		if got := GetOp(r); got != c.want || r.At() != c.at || r.End() != c.why {
			t.Errorf("GetOp of %s: %v, at %d with %d", c.b, got, r.At(), r.End())
		}
		checkStuck(t, "GetOp of "+c.b, r, c.at, c.why)
	}
	for _, c := range []struct {
		b    string
		want api.Reply
		at   int
		why  api.Errno
	}{
		{"0e 80 00 00", api.Reply{Why: 7}, 1, api.ErrForm},
		{"0e 10 82 00 00", api.Reply{Why: 7, Amount: 8}, 2, api.ErrForm},
		{"01 01 03 81 80 04 00 00 00", api.Reply{Why: -1, Amount: -1, Rows: make([]api.Row, 3)}, 3, api.ErrSize},
		{"00 00 02 01 61 80 00 01 62 02", api.Reply{Rows: []api.Row{{Name: "a"}, {}}}, 5, api.ErrForm},
	} {
		r := NewReader(fromHex(t, c.b))
		if got := GetReply(r); !sameReply(got, c.want) || r.At() != c.at || r.End() != c.why {
			t.Errorf("GetReply of %s: %v, at %d with %d", c.b, got, r.At(), r.End())
		}
		checkStuck(t, "GetReply of "+c.b, r, c.at, c.why)
	}
}

// P2.4: an answer has at most 600 rows, and an operation's texts at most MaxBytes bytes.
func TestMostOfOpAndReply(t *testing.T) {
	for _, c := range []struct {
		rows int
		why  api.Errno
	}{{0, api.OK}, {1, api.OK}, {599, api.OK}, {600, api.OK}, {601, api.ErrSize}, {5000, api.ErrSize}} {
		p := api.Reply{Why: 7, Amount: 8, Rows: make([]api.Row, c.rows)}
		for i := range p.Rows {
			p.Rows[i] = api.Row{Name: "n", Amount: int64(i)}
		}
		r := NewReader(PutReply(nil, p))
		got := GetReply(r)
		if c.why != api.OK {
			p.Rows = nil
		}
		if !sameReply(got, p) || r.End() != c.why {
			t.Errorf("GetReply of %d rows: %d rows with %d, want %d", c.rows, len(got.Rows), r.End(), c.why)
		}
	}
	for _, n := range []int{api.MaxBytes, api.MaxBytes + 1} {
		o := api.Op{Kind: 1, To: string(make([]byte, n))}
		r := NewReader(PutOp(nil, o))
		got, why := GetOp(r), r.End()
		if n == api.MaxBytes && (got != o || why != api.OK) || n > api.MaxBytes && (got != api.Op{Kind: 1} || why != api.ErrSize || r.At() != 2) {
			t.Errorf("GetOp of a text of %d bytes: at %d with %d", n, r.At(), why)
		}
	}
}

// P2.4: two answers that were read share no memory, nor does one with what was written.
func TestRepliesShareNothing(t *testing.T) {
	p := api.Reply{Rows: []api.Row{{Name: "ann", Amount: 1}}}
	b := PutReply(PutReply(nil, p), p)
	r := NewReader(b)
	first, second := GetReply(r), GetReply(r)
	first.Rows[0] = api.Row{Name: "eve", Amount: 9}
	if !sameReply(second, p) || p.Rows[0].Name != "ann" {
		t.Error("answers share rows", second, p)
	}
}
