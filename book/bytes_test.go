package book

import (
	"bytes"
	"encoding/binary"
	"fmt"
	"math"
	"strings"
	"testing"

	"almoner/api"
)

// P11.5: books as bytes.
func TestBytes(t *testing.T) {
	for _, c := range []struct{ text, want string }{
		{"", "00"},
		{"ann=5:x", "01 03 61 6e 6e 0a 01 78"},
		{"b=0 a=64:xy", "02 01 61 80 01 02 78 79 01 62 00 00"},
		{"_=9223372036854775807", "01 01 5f fe ff ff ff ff ff ff ff ff 01 00"},
	} {
		if got := fmt.Sprintf("% x", made(t, c.text).Bytes()); got != c.want {
			t.Errorf("Bytes of %s: %s; want %s", c.text, got, c.want)
		}
		wantBook(t, made(t, c.text), c.text)
	}
}

// P11.5, P11.7, P7: books of as many accounts as there may be, with the longest names and holders.
func TestGreatBooks(t *testing.T) {
	for _, count := range []int{1, 127, 128, 199, 200} {
		p := plain{}
		for i := range count {
			name := fmt.Sprintf("%024d", i)
			p[name] = held{amount: math.MaxInt64 - int64(i), by: strings.Repeat("\xff", i%3*32768)}
		}
		b, why := Load(p.bytes())
		if why != api.OK {
			t.Fatalf("Load of %d accounts: %d", count, why)
		}
		wantPlain(t, b, p)
	}
}

// listed is accounts as bytes, whatever they are, in the order in which they are told.
func listed(rows ...[]byte) []byte {
	return append(binary.AppendUvarint(nil, uint64(len(rows))), bytes.Join(rows, nil)...)
}

func row(name string, amount int64, by string) []byte {
	return written(nil, name, amount, by)
}

// P11.5, P7, P1: what Load refuses, by the error that is named first.
func TestLoadRefuses(t *testing.T) {
	ann, bob := row("ann", 1, ""), row("bob", 2, "x")
	long := strings.Repeat("x", 65536)
	many := func(count int) []byte {
		var rows [][]byte
		for i := range count {
			rows = append(rows, row(fmt.Sprintf("n%03d", i), 1, ""))
		}
		return listed(rows...)
	}
	for _, c := range []struct {
		what string
		p    []byte
		want api.Errno
	}{
		{"nothing", nil, api.ErrShort},
		{"no bytes", []byte{}, api.ErrShort},
		{"a number that is cut", []byte{0x80}, api.ErrShort},
		{"a number of another form", []byte{0x80, 0}, api.ErrForm},
		{"one byte more", []byte{0, 0}, api.ErrForm},
		{"200 accounts", many(200), api.OK},
		{"201 accounts", many(201), api.ErrSize},
		{"201 accounts that are not there", []byte{0xc9, 1}, api.ErrSize},
		{"200 accounts that are not there", []byte{0xc8, 1}, api.ErrShort},
		{"most accounts", append(bytes.Repeat([]byte{0xff}, 9), 1), api.ErrSize},
		{"one account that is not there", []byte{1}, api.ErrShort},
		{"two accounts, one of which is not there", append([]byte{2}, ann...), api.ErrShort},
		{"two accounts", listed(ann, bob), api.OK},
		{"two accounts and one byte", append(listed(ann, bob), 0), api.ErrForm},
		{"two accounts and a third one", append(listed(ann, bob), row("carl", 1, "")...), api.ErrForm},
		{"two accounts in another order", listed(bob, ann), api.ErrForm},
		{"an account twice", listed(ann, ann), api.ErrForm},
		{"a name twice", listed(ann, row("ann", 2, "")), api.ErrForm},
		{"no name", listed(row("", 1, "")), api.ErrForm},
		{"a wrong name", listed(row("Ann", 1, "")), api.ErrForm},
		{"a name of 24 bytes", listed(row(strings.Repeat("n", 24), 1, "")), api.OK},
		{"a name of 25 bytes", listed(row(strings.Repeat("n", 25), 1, "")), api.ErrForm},
		{"a name of too many bytes", listed(row(long+"x", 1, "")), api.ErrSize},
		{"an amount below 0", listed(row("ann", -1, "")), api.ErrForm},
		{"the least amount", listed(row("ann", math.MinInt64, "x")), api.ErrForm},
		{"the greatest amount", listed(row("ann", math.MaxInt64, "")), api.OK},
		{"a long holder", listed(row("ann", 1, long)), api.OK},
		{"too long a holder", listed(row("ann", 1, long+"x")), api.ErrSize},
		{"an amount of another form", []byte{1, 1, 'a', 0x8a, 0, 0}, api.ErrForm},
		{"a name's number of another form", []byte{1, 0x81, 0, 'a', 2, 0}, api.ErrForm},
		{"a wrong name and a byte that is not there", []byte{1, 1, 'A', 2, 1}, api.ErrShort},
		{"accounts in another order, then a wrong number", append([]byte{3}, append(listed(bob, ann)[1:], 0x80, 0, 0)...), api.ErrForm},
		{"a wrong name, then too long a one", listed(row("A", 1, ""), row(long+"x", 1, "")), api.ErrSize},
	} {
		b, why := Load(c.p)
		if why != c.want || (b != nil) != (why == api.OK) {
			t.Errorf("Load of %s: %v, %d; want %d", c.what, b != nil, why, c.want)
		}
		if why == api.OK && !bytes.Equal(b.Bytes(), c.p) {
			t.Errorf("Load of %s: Bytes %x", c.what, b.Bytes())
		}
	}
}

// P11.7, P7: bytes that are cut anywhere, or have one more, are refused; those of which one is turned are another book, or refused.
func TestSpoiledBytes(t *testing.T) {
	b := made(t, "ann=300:x/y bob=0 carl=9223372036854775807 dan=1:z")
	p := b.Bytes()
	for n := range p {
		if c, why := Load(p[:n]); c != nil || why != api.ErrShort {
			t.Errorf("Load of %d bytes: %v, %d", n, c, why)
		}
	}
	for c := range 256 {
		if got, why := Load(append(b.Bytes(), byte(c))); got != nil || why != api.ErrForm {
			t.Errorf("Load with %x behind it: %v, %d", c, got, why)
		}
	}
	taken := 0
	for i := range p {
		for c := range 256 {
			q := b.Bytes()
			q[i] = byte(c)
			got, why := Load(q)
			switch {
			case why != api.OK && got != nil:
				t.Fatalf("beside %d: %v", why, got)
			case why != api.OK:
			case !bytes.Equal(got.Bytes(), q) || got.Same(b) != (q[i] == p[i]):
				t.Fatalf("Load of %x: %x", q, got.Bytes())
			default:
				taken++
			}
		}
	}
	if taken < 1000 {
		t.Errorf("%d were taken", taken)
	}
}

// P11.5, P11.7, P7, P1: whatever Load takes is written as the same bytes.
func FuzzLoad(f *testing.F) {
	for _, text := range []string{"", "ann=5:x", "ann=1 bob=2:x carl=3"} {
		f.Add(parse(text).bytes())
	}
	f.Fuzz(func(t *testing.T, p []byte) {
		b, why := Load(p)
		if (b == nil) != (why != api.OK) {
			t.Fatalf("%v, %d", b, why)
		}
		if why == api.OK && !bytes.Equal(b.Bytes(), p) {
			t.Fatalf("%x is written as %x", p, b.Bytes())
		}
	})
}
