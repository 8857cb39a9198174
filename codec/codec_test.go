package codec

import (
	"bytes"
	"encoding/hex"
	"math"
	"math/rand"
	"strings"
	"testing"

	"almoner/api"
)

// fromHex answers the bytes that a text of hex digits and spaces tells.
func fromHex(t *testing.T, s string) []byte {
	t.Helper()
	b, err := hex.DecodeString(strings.ReplaceAll(s, " ", ""))
	if err != nil {
		t.Fatal(err)
	}
	return b
}

func someBytes(r *rand.Rand, n int) []byte {
	b := make([]byte, n)
	r.Read(b)
	return b
}

// someUint answers a number with any count of bits, so that every length of its form comes up.
func someUint(r *rand.Rand) uint64 {
	return r.Uint64() >> r.Intn(64)
}

func someInt(r *rand.Rand) int64 {
	return int64(someUint(r)) * int64(1-2*r.Intn(2))
}

func someText(r *rand.Rand) string {
	return string(someBytes(r, r.Intn(6)))
}

func someOp(r *rand.Rand) api.Op {
	return api.Op{Kind: int(someInt(r)), From: someText(r), To: someText(r), Amount: someInt(r), Key: someText(r), Slot: int(someInt(r)), Shard: int(someInt(r))}
}

func someReply(r *rand.Rand) api.Reply {
	p := api.Reply{Why: api.Errno(someInt(r)), Amount: someInt(r)}
	for range r.Intn(4) {
		p.Rows = append(p.Rows, api.Row{Name: someText(r), Amount: someInt(r)})
	}
	return p
}

// the numbers at which the forms have edges
var (
	edgeUints = []uint64{0, 1, 127, 128, 255, 256, 300, 16383, 16384, 1<<21 - 1, 1 << 21, 1<<56 - 1, 1 << 56, 1<<63 - 1, 1 << 63, math.MaxUint64}
	edgeInts  = []int64{0, 1, -1, 63, -64, 64, -65, math.MaxInt32, math.MinInt32, math.MaxInt64, math.MinInt64}
)

// P2.1: the forms of numbers, texts and truths.
func TestForms(t *testing.T) {
	for _, c := range []struct {
		what string
		got  []byte
		want string
	}{
		{"Uint 0", Uint(nil, 0), "00"},
		{"Uint 127", Uint(nil, 127), "7f"},
		{"Uint 128", Uint(nil, 128), "80 01"},
		{"Uint 300", Uint(nil, 300), "ac 02"},
		{"Uint 16383", Uint(nil, 16383), "ff 7f"},
		{"Uint 16384", Uint(nil, 16384), "80 80 01"},
		{"Uint 2^63", Uint(nil, 1<<63), "80 80 80 80 80 80 80 80 80 01"},
		{"Uint 2^64-1", Uint(nil, math.MaxUint64), "ff ff ff ff ff ff ff ff ff 01"},
		{"Int 0", Int(nil, 0), "00"},
		{"Int -1", Int(nil, -1), "01"},
		{"Int 1", Int(nil, 1), "02"},
		{"Int -2", Int(nil, -2), "03"},
		{"Int 63", Int(nil, 63), "7e"},
		{"Int -64", Int(nil, -64), "7f"},
		{"Int 64", Int(nil, 64), "80 01"},
		{"Int greatest", Int(nil, math.MaxInt64), "fe ff ff ff ff ff ff ff ff 01"},
		{"Int least", Int(nil, math.MinInt64), "ff ff ff ff ff ff ff ff ff 01"},
		{"Bytes nil", Bytes(nil, nil), "00"},
		{"Bytes", Bytes(nil, []byte{0xff, 0}), "02 ff 00"},
		{"Text empty", Text(nil, ""), "00"},
		{"Text ab", Text(nil, "ab"), "02 61 62"},
		{"Text not UTF-8", Text(nil, "\xff"), "01 ff"},
		{"Bool false", Bool(nil, false), "00"},
		{"Bool true", Bool(nil, true), "01"},
	} {
		if want := fromHex(t, c.want); !bytes.Equal(c.got, want) {
			t.Errorf("%s: %x, want %x", c.what, c.got, want)
		}
	}
	long := bytes.Repeat([]byte{7}, api.MaxBytes+1)
	if got := Bytes(nil, long); !bytes.Equal(got, append(Uint(nil, uint64(len(long))), long...)) {
		t.Errorf("Bytes of more than MaxBytes: %d bytes", len(got))
	}
}

// P2.1: the forms of operations and answers.
func TestFormsOfOpAndReply(t *testing.T) {
	o := api.Op{Kind: api.Transfer, From: "ann", To: "bo", Amount: 300, Key: "k", Slot: 3, Shard: -1}
	if got, want := PutOp(nil, o), fromHex(t, "08 03616e6e 02626f d804 016b 06 01"); !bytes.Equal(got, want) {
		t.Errorf("PutOp %x, want %x", got, want)
	}
	if got, want := PutOp(nil, api.Op{}), make([]byte, 7); !bytes.Equal(got, want) {
		t.Errorf("PutOp of the zero one %x", got)
	}
	p := api.Reply{Why: api.ErrRetry, Amount: -2, Rows: []api.Row{{Name: "ann", Amount: 3}, {Name: "", Amount: 64}}}
	if got, want := PutReply(nil, p), fromHex(t, "64 03 02 03616e6e06 008001"); !bytes.Equal(got, want) {
		t.Errorf("PutReply %x, want %x", got, want)
	}
	if got, want := PutReply(nil, api.Reply{}), make([]byte, 3); !bytes.Equal(got, want) {
		t.Errorf("PutReply of the zero one %x", got)
	}
}

// P2.1: the form stands behind b, in memory that is b's no more.
func TestFormsBehindBytes(t *testing.T) {
	o := api.Op{Kind: 1, From: "ann", Key: "k"}
	p := api.Reply{Why: 1, Rows: []api.Row{{Name: "bob", Amount: 2}}}
	puts := map[string]func(b []byte) []byte{
		"Uint":     func(b []byte) []byte { return Uint(b, 300) },
		"Int":      func(b []byte) []byte { return Int(b, -300) },
		"Bytes":    func(b []byte) []byte { return Bytes(b, []byte("xyz")) },
		"Text":     func(b []byte) []byte { return Text(b, "xyz") },
		"Bool":     func(b []byte) []byte { return Bool(b, true) },
		"PutOp":    func(b []byte) []byte { return PutOp(b, o) },
		"PutReply": func(b []byte) []byte { return PutReply(b, p) },
	}
	for name, put := range puts {
		form := put(nil)
		for _, ahead := range [][]byte{nil, {}, []byte("q"), []byte("ahead of it")} {
			room := append(bytes.Clone(ahead), bytes.Repeat([]byte{0xee}, 64)...)
			before := bytes.Clone(room)
			got := put(room[:len(ahead)])
			want := append(bytes.Clone(ahead), form...)
			if !bytes.Equal(got, want) {
				t.Errorf("%s behind %q: %x, want %x", name, ahead, got, want)
			}
			clear(got)
			_ = append(got, 1, 2, 3)
			if !bytes.Equal(room, before) {
				t.Errorf("%s behind %q wrote into what it was given", name, ahead)
			}
		}
	}
}

// P2.1: writing into what was handed in changes nothing of the answer, and the other way round.
func TestBytesShareNothing(t *testing.T) {
	p := []byte("pay")
	got := Bytes(nil, p)
	p[0] = 'x'
	if string(got) != "\x03pay" {
		t.Errorf("Bytes kept its argument: %q", got)
	}
	clear(got)
	if string(p) != "xay" {
		t.Errorf("the answer of Bytes shares its argument: %q", p)
	}
}

// P2.5: numbers, bytes, texts and truths are read as they were written.
func TestReadAsWritten(t *testing.T) {
	r := rand.New(rand.NewSource(1))
	uints, ints := edgeUints, edgeInts
	for range 500 {
		uints, ints = append(uints, someUint(r)), append(ints, someInt(r))
	}
	for _, n := range uints {
		in := NewReader(Uint(nil, n))
		if got := in.Uint(); got != n || in.End() != api.OK {
			t.Errorf("Uint %d: %d, %d", n, got, in.End())
		}
	}
	for _, n := range ints {
		in := NewReader(Int(nil, n))
		if got := in.Int(); got != n || in.End() != api.OK {
			t.Errorf("Int %d: %d, %d", n, got, in.End())
		}
	}
	for _, n := range []int{0, 1, 127, 128, 5000, api.MaxBytes} {
		p := someBytes(r, n)
		in := NewReader(Text(Bool(Bytes(Bool(nil, true), p), false), string(p)))
		if in.Bool() != true || !bytes.Equal(in.Bytes(), p) || in.Bool() != false || in.Text() != string(p) || in.End() != api.OK {
			t.Errorf("%d bytes: %d", n, in.End())
		}
	}
}

// P2.5: operations and answers are read as they were written, one behind the other.
func TestOpsAndRepliesReadAsWritten(t *testing.T) {
	r := rand.New(rand.NewSource(2))
	for range 300 {
		o, p, q := someOp(r), someReply(r), someOp(r)
		in := NewReader(PutOp(PutReply(PutOp(nil, o), p), q))
		if got := GetOp(in); got != o {
			t.Fatalf("GetOp %v, want %v", got, o)
		}
		if got := GetReply(in); !sameReply(got, p) {
			t.Fatalf("GetReply %v, want %v", got, p)
		}
		if got := GetOp(in); got != q || in.End() != api.OK {
			t.Fatalf("GetOp %v, want %v; %d", got, q, in.End())
		}
	}
}

func sameReply(a, b api.Reply) bool {
	if a.Why != b.Why || a.Amount != b.Amount || len(a.Rows) != len(b.Rows) {
		return false
	}
	for i := range a.Rows {
		if a.Rows[i] != b.Rows[i] {
			return false
		}
	}
	return true
}
