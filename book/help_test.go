package book

import (
	"bytes"
	"encoding/binary"
	"fmt"
	"hash/crc32"
	"maps"
	"math"
	"slices"
	"strconv"
	"strings"
	"testing"

	"almoner/api"
)

// plain is accounts as a plain map: what each has, and who holds it.
type plain map[string]held

type held struct {
	amount int64
	by     string
}

// parse is the accounts that a text tells: ann=5:x is one with 5 that x holds.
func parse(text string) plain {
	p := plain{}
	for _, word := range strings.Fields(text) {
		name, rest, _ := strings.Cut(word, "=")
		number, by, _ := strings.Cut(rest, ":")
		amount, err := strconv.ParseInt(number, 10, 64)
		if err != nil {
			panic(err)
		}
		p[name] = held{amount, by}
	}
	return p
}

// names is the names of all accounts, in order.
func (p plain) names() []string {
	return slices.Sorted(maps.Keys(p))
}

// bytes is what a book of these accounts is to be written as.
func (p plain) bytes() []byte {
	b := binary.AppendUvarint(nil, uint64(len(p)))
	for _, name := range p.names() {
		b = written(b, name, p[name].amount, p[name].by)
	}
	return b
}

// written is b, and an account behind it, whatever it is.
func written(b []byte, name string, amount int64, by string) []byte {
	b = append(binary.AppendUvarint(b, uint64(len(name))), name...)
	b = binary.AppendVarint(b, amount)
	return append(binary.AppendUvarint(b, uint64(len(by))), by...)
}

// slotOf is the slot of a name, by the library's own sum.
func slotOf(name string) int {
	return int(crc32.Checksum([]byte(name), crc32.MakeTable(crc32.Castagnoli)) % 16)
}

// told is rows as a text.
func told(rows []api.Row) string {
	var words []string
	for _, r := range rows {
		words = append(words, fmt.Sprintf("%s=%d", r.Name, r.Amount))
	}
	return strings.Join(words, " ")
}

// made is a book of the accounts that a text tells.
func made(t *testing.T, text string) *Book {
	t.Helper()
	b := New()
	for name, h := range parse(text) {
		if why := b.Put(api.Row{Name: name, Amount: h.amount}); why != api.OK {
			t.Fatalf("Put %s %d: %d", name, h.amount, why)
		}
		if h.by == "" {
			continue
		}
		if why := b.Hold(name, h.by); why != api.OK {
			t.Fatalf("Hold %s by %s: %d", name, h.by, why)
		}
	}
	return b
}

func wantBook(t *testing.T, b *Book, want string) {
	t.Helper()
	wantPlain(t, b, parse(want))
}

// wantPlain holds all that a book tells against the accounts that it is to have.
func wantPlain(t *testing.T, b *Book, p plain) {
	t.Helper()
	count := 0
	var all []api.Row
	of := map[int][]api.Row{-1: nil}
	for _, name := range p.names() {
		h := p[name]
		if h.by != "" {
			count++
		}
		row := api.Row{Name: name, Amount: h.amount}
		all = append(all, row)
		of[slotOf(name)] = append(of[slotOf(name)], row)
		if has, why := b.Get(name); has != h.amount || why != api.OK || b.By(name) != h.by {
			t.Fatalf("%s: Get %d, %d, By %q; want %d, %q", name, has, why, b.By(name), h.amount, h.by)
		}
	}
	of[-1] = all
	if b.Len() != len(p) || b.Held() != count {
		t.Fatalf("Len %d, Held %d; want %d, %d", b.Len(), b.Held(), len(p), count)
	}
	for _, slot := range append(slots(), math.MinInt, -3, -2, -1, 16, 17, math.MaxInt) {
		if got := b.Rows(slot); told(got) != told(of[slot]) {
			t.Fatalf("Rows(%d): %s; want %s", slot, told(got), told(of[slot]))
		}
	}
	if got := slices.Collect(b.Each()); told(got) != told(all) {
		t.Fatalf("Each: %s; want %s", told(got), told(all))
	}
	wantBytes(t, b, p.bytes())
}

// wantBytes asks that a book is written as these bytes, and that they are the same book.
func wantBytes(t *testing.T, b *Book, want []byte) {
	t.Helper()
	got := b.Bytes()
	if !bytes.Equal(got, want) {
		t.Fatalf("Bytes: %x; want %x", got, want)
	}
	back, why := Load(got)
	if why != api.OK || !back.Same(b) || !b.Same(back) || !bytes.Equal(back.Bytes(), want) {
		t.Fatalf("Load of %x: %d", got, why)
	}
}

// slots is the numbers of all slots.
func slots() []int {
	var l []int
	for slot := range 16 {
		l = append(l, slot)
	}
	return l
}

// wantNone asks that an account is not there.
func wantNone(t *testing.T, b *Book, name string) {
	t.Helper()
	has, get := b.Get(name)
	for call, why := range map[string]api.Errno{
		"Get":  get,
		"Add":  b.Add(name, 1),
		"Take": b.Take(name, 1),
		"Hold": b.Hold(name, "x"),
		"Free": b.Free(name, "x"),
	} {
		if why != api.ErrNone {
			t.Errorf("%s of %q: %d", call, name, why)
		}
	}
	if has != 0 || b.By(name) != "" {
		t.Errorf("%q has %d, and is held by %q", name, has, b.By(name))
	}
}
