package book

import (
	"fmt"
	"math"
	"slices"
	"strings"
	"testing"

	"almoner/api"
)

// P11.2, P11.5, P1: calls of nil.
func TestNil(t *testing.T) {
	var b *Book
	for _, name := range []string{"", "ann", "A", strings.Repeat("n", 99)} {
		has, get := b.Get(name)
		for call, why := range map[string]api.Errno{
			"Open": b.Open(name),
			"Add":  b.Add(name, 0),
			"Take": b.Take(name, -1),
			"Get":  get,
			"Hold": b.Hold(name, ""),
			"Free": b.Free(name, ""),
			"Put":  b.Put(api.Row{Name: name, Amount: -1}),
		} {
			if why != api.ErrNil {
				t.Errorf("%s: %d", call, why)
			}
		}
		if has != 0 || b.By(name) != "" {
			t.Errorf("Get %d, By %q", has, b.By(name))
		}
	}
	for _, slot := range []int{-1, 0, 15, 16} {
		if len(b.Rows(slot)) != 0 || b.Drop(slot) != 0 {
			t.Error("Rows, Drop")
		}
	}
	for range b.Each() {
		t.Error("Each")
	}
	if b.Len() != 0 || b.Held() != 0 || b.Copy() != nil || len(b.Bytes()) != 0 {
		t.Error("Len, Held, Copy, Bytes")
	}
	if !b.Same(nil) || b.Same(New()) || New().Same(nil) {
		t.Error("nil is the same as nil alone")
	}
}

// P11.2, P1: a new book has no accounts; so has one that was not made by New.
func TestNew(t *testing.T) {
	for _, b := range []*Book{New(), {}} {
		wantBook(t, b, "")
		for _, name := range []string{"", "ann", "A", strings.Repeat("n", 25)} {
			wantNone(t, b, name)
		}
		if !b.Same(New()) || !b.Copy().Same(b) {
			t.Error("Same")
		}
		if why := b.Open("ann"); why != api.OK {
			t.Errorf("Open: %d", why)
		}
		wantBook(t, b, "ann=0")
	}
	if one := New(); one.Open("a") != api.OK || New().Len() != 0 {
		t.Error("two books are one")
	}
}

// The chapter's example, P11.2, P11.3, P11.5.
func TestExample(t *testing.T) {
	b := New()
	for i, c := range []struct{ why, want api.Errno }{
		{b.Open("ann"), api.OK},
		{b.Add("ann", 5), api.OK},
		{b.Take("ann", 6), api.ErrFunds},
		{b.Hold("ann", "x"), api.OK},
		{b.Hold("ann", "y"), api.ErrState},
	} {
		if c.why != c.want {
			t.Errorf("call %d: %d, want %d", i, c.why, c.want)
		}
	}
	if got := fmt.Sprintf("% x", b.Bytes()); got != "01 03 61 6e 6e 0a 01 78" {
		t.Errorf("Bytes: %s", got)
	}
}

// P11.2: Open, and what it refuses.
func TestOpen(t *testing.T) {
	b := made(t, "bob=7:x")
	for _, c := range []struct {
		name string
		want api.Errno
	}{
		{"ann", api.OK},
		{"ann", api.ErrTwice},
		{"bob", api.ErrTwice},
		{"", api.ErrName},
		{"Ann", api.ErrName},
		{"ann ", api.ErrName},
		{strings.Repeat("n", 25), api.ErrName},
		{"_", api.OK},
		{"0", api.OK},
		{"anna", api.OK},
		{"an", api.OK},
	} {
		if why := b.Open(c.name); why != c.want {
			t.Errorf("Open %q: %d, want %d", c.name, why, c.want)
		}
	}
	wantBook(t, b, "ann=0 bob=7:x _=0 0=0 anna=0 an=0")
}

// P11.2, P11.4: there are at most 200 accounts; ErrName, ErrAmount and ErrTwice come ahead of ErrFull; one that goes makes room.
func TestFull(t *testing.T) {
	b, p := New(), plain{}
	for i := range 200 {
		name := fmt.Sprintf("n%d", i*7919%200)
		p[name] = held{}
		why := b.Open(name)
		if i%2 == 1 {
			b.Take(name, 1)
			why = max(why, b.Add(name, int64(i)))
			p[name] = held{amount: int64(i)}
		}
		if why != api.OK {
			t.Fatalf("account %d: %d", i, why)
		}
	}
	for _, c := range []struct {
		row  api.Row
		want api.Errno
	}{
		{api.Row{Name: "more"}, api.ErrFull},
		{api.Row{Name: "more", Amount: 5}, api.ErrFull},
		{api.Row{Name: "n7"}, api.ErrTwice},
		{api.Row{Name: "More"}, api.ErrName},
		{api.Row{Name: "more", Amount: -1}, api.ErrAmount},
	} {
		if why := b.Put(c.row); why != c.want {
			t.Errorf("Put %v: %d, want %d", c.row, why, c.want)
		}
		if why := b.Open(c.row.Name); c.row.Amount == 0 && why != c.want {
			t.Errorf("Open %s: %d, want %d", c.row.Name, why, c.want)
		}
	}
	wantPlain(t, b, p)
	slot := slotOf("n7")
	gone := b.Drop(slot)
	for name := range p {
		if slotOf(name) == slot {
			gone--
			delete(p, name)
		}
	}
	if gone != 0 || b.Put(api.Row{Name: "more", Amount: 5}) != api.OK {
		t.Errorf("Drop makes no room: %d more than there were", gone)
	}
	p["more"] = held{amount: 5}
	wantPlain(t, b, p)
}

// P11.2: Add and Take at their edges; refused, they change nothing.
func TestAddTake(t *testing.T) {
	const most = math.MaxInt64
	for _, c := range []struct {
		has       int64
		n         int64
		add, take api.Errno
	}{
		{0, 1, api.OK, api.ErrFunds},
		{0, most, api.OK, api.ErrFunds},
		{0, 0, api.ErrAmount, api.ErrAmount},
		{5, 0, api.ErrAmount, api.ErrAmount},
		{5, -1, api.ErrAmount, api.ErrAmount},
		{5, math.MinInt64, api.ErrAmount, api.ErrAmount},
		{5, 4, api.OK, api.OK},
		{5, 5, api.OK, api.OK},
		{5, 6, api.OK, api.ErrFunds},
		{5, most - 5, api.OK, api.ErrFunds},
		{5, most - 4, api.ErrOver, api.ErrFunds},
		{5, most, api.ErrOver, api.ErrFunds},
		{most, 1, api.ErrOver, api.OK},
		{most, most, api.ErrOver, api.OK},
		{most, -1, api.ErrAmount, api.ErrAmount},
		{most - 1, 1, api.OK, api.OK},
		{most - 1, most, api.ErrOver, api.ErrFunds},
	} {
		for _, by := range []string{"", "x"} {
			other := fmt.Sprintf(" a=3 c=%d:y", int64(most))
			for _, call := range []struct {
				name string
				do   func(b *Book) api.Errno
				want api.Errno
				sign int64
			}{
				{"Add", func(b *Book) api.Errno { return b.Add("b", c.n) }, c.add, 1},
				{"Take", func(b *Book) api.Errno { return b.Take("b", c.n) }, c.take, -1},
			} {
				b := made(t, fmt.Sprintf("b=%d:%s%s", c.has, by, other))
				if why := call.do(b); why != call.want {
					t.Errorf("%s of %d to %d: %d, want %d", call.name, c.n, c.has, why, call.want)
				}
				has := c.has
				if call.want == api.OK {
					has += call.sign * c.n
				}
				wantBook(t, b, fmt.Sprintf("b=%d:%s%s", has, by, other))
			}
		}
	}
}

// P11.2, P11.3: of an account that is not there ErrNone is the answer, whatever else is wrong.
func TestNone(t *testing.T) {
	b := made(t, "ann=5:x carl=1")
	for _, name := range []string{"", "bob", "an", "anna", "Ann", "zoe", strings.Repeat("n", 100000)} {
		wantNone(t, b, name)
		for i, why := range []api.Errno{b.Add(name, 0), b.Add(name, -1), b.Take(name, 0), b.Hold(name, ""), b.Free(name, "")} {
			if why != api.ErrNone {
				t.Errorf("call %d of %q: %d", i, name, why)
			}
		}
	}
	wantBook(t, b, "ann=5:x carl=1")
}

// P11.3: Hold and Free; who holds an account may hold it again, and nobody can let go of it but who holds it.
func TestHoldFree(t *testing.T) {
	long := strings.Repeat("x", 65536)
	for _, c := range []struct {
		was        string
		by         string
		hold, free api.Errno
	}{
		{"", "x", api.OK, api.ErrState},
		{"", "", api.ErrArg, api.ErrState},
		{"", long, api.OK, api.ErrState},
		{"", long + "x", api.ErrArg, api.ErrState},
		{"x", "x", api.OK, api.OK},
		{"x", "y", api.ErrState, api.ErrState},
		{"x", "xx", api.ErrState, api.ErrState},
		{"xx", "x", api.ErrState, api.ErrState},
		{"x", "", api.ErrArg, api.ErrState},
		{"x", long, api.ErrState, api.ErrState},
		{"x", long + "x", api.ErrArg, api.ErrState},
		{long, long, api.OK, api.OK},
		{long, long[1:], api.ErrState, api.ErrState},
		{"\x00", "\x00", api.OK, api.OK},
		{"\x00", "\xff /", api.ErrState, api.ErrState},
	} {
		was := plain{"ann": {5, c.was}, "bob": {0, "x"}, "al": {}}
		b, err := Load(was.bytes())
		if err != api.OK {
			t.Fatalf("Load: %d", err)
		}
		if why := b.Free("ann", c.by); why != c.free {
			t.Errorf("Free of %.9q by %.9q: %d, want %d", c.was, c.by, why, c.free)
		}
		if c.free == api.OK {
			wantPlain(t, b, plain{"ann": {5, ""}, "bob": {0, "x"}, "al": {}})
		} else {
			wantPlain(t, b, was)
		}
		b, _ = Load(was.bytes())
		if why := b.Hold("ann", c.by); why != c.hold {
			t.Errorf("Hold of %.9q by %.9q: %d, want %d", c.was, c.by, why, c.hold)
		}
		if c.hold == api.OK {
			was["ann"] = held{5, c.by}
		}
		wantPlain(t, b, was)
	}
}

// P11.4: Put, and what it refuses.
func TestPut(t *testing.T) {
	b := made(t, "bob=7:x")
	for _, c := range []struct {
		row  api.Row
		want api.Errno
	}{
		{api.Row{Name: "ann", Amount: 0}, api.OK},
		{api.Row{Name: "ann", Amount: 1}, api.ErrTwice},
		{api.Row{Name: "carl", Amount: math.MaxInt64}, api.OK},
		{api.Row{Name: "dan", Amount: -1}, api.ErrAmount},
		{api.Row{Name: "dan", Amount: math.MinInt64}, api.ErrAmount},
		{api.Row{Name: "bob", Amount: -1}, api.ErrAmount},
		{api.Row{Name: "bob", Amount: 9}, api.ErrTwice},
		{api.Row{Name: "bob", Amount: 7}, api.ErrTwice},
		{api.Row{Name: "Bob", Amount: -1}, api.ErrName},
		{api.Row{}, api.ErrName},
	} {
		if why := b.Put(c.row); why != c.want {
			t.Errorf("Put %v: %d, want %d", c.row, why, c.want)
		}
	}
	wantBook(t, b, "ann=0 bob=7:x carl=9223372036854775807")
}

// P11.4: Rows and Drop of each slot; of no slot nothing goes, and the accounts of a slot go, whoever holds them.
func TestSlots(t *testing.T) {
	p := plain{}
	for i := range 120 {
		h := held{amount: int64(i)}
		if i%3 == 0 {
			h.by = "x"
		}
		p[fmt.Sprintf("n%d", i)] = h
	}
	b, why := Load(p.bytes())
	if why != api.OK {
		t.Fatalf("Load: %d", why)
	}
	for _, slot := range []int{math.MinInt, -2, -1, 16, 17, 256, math.MaxInt} {
		if n := b.Drop(slot); n != 0 {
			t.Errorf("Drop(%d): %d", slot, n)
		}
	}
	wantPlain(t, b, p)
	for slot := range 16 {
		want := 0
		for name := range p {
			if slotOf(name) == slot {
				want++
				delete(p, name)
			}
		}
		if want == 0 {
			t.Fatalf("none of the slot %d", slot)
		}
		for _, want := range []int{want, 0} {
			if n := b.Drop(slot); n != want {
				t.Errorf("Drop(%d): %d, want %d", slot, n, want)
			}
			wantPlain(t, b, p)
		}
	}
}

// P11.4: Each goes through the accounts as they were when it was called, as often as one likes, and up to where one likes.
func TestEachAsItWas(t *testing.T) {
	b := made(t, "ann=1 bob=2:x carl=3")
	all := b.Each()
	b.Add("ann", 9)
	b.Drop(slotOf("bob"))
	b.Open("al")
	for range 2 {
		got := ""
		for r := range all {
			got += told([]api.Row{r}) + " "
			b.Take("carl", 1)
		}
		if got != "ann=1 bob=2 carl=3 " {
			t.Errorf("Each: %s", got)
		}
	}
	count := 0
	for range all {
		if count++; count == 2 {
			break
		}
	}
	if has, _ := b.Get("carl"); count != 2 || has != 0 {
		t.Errorf("%d were gone through, carl has %d", count, has)
	}
}

// P11.5: a copy is the same, and goes its own way.
func TestCopy(t *testing.T) {
	const was = "ann=1 bob=2:x carl=3"
	for _, change := range []func(b *Book) bool{
		func(b *Book) bool { return b.Add("ann", 1) == api.OK },
		func(b *Book) bool { return b.Take("carl", 3) == api.OK },
		func(b *Book) bool { return b.Hold("carl", "y") == api.OK },
		func(b *Book) bool { return b.Free("bob", "x") == api.OK },
		func(b *Book) bool { return b.Open("aa") == api.OK },
		func(b *Book) bool { return b.Put(api.Row{Name: "zz", Amount: 1}) == api.OK },
		func(b *Book) bool { return b.Drop(slotOf("ann")) > 0 },
	} {
		for _, ofCopy := range []bool{false, true} {
			b := made(t, was)
			c := b.Copy()
			if b == c || !b.Same(c) || !c.Same(b) {
				t.Fatal("a copy is not the same")
			}
			changed, left := b, c
			if ofCopy {
				changed, left = c, b
			}
			if !change(changed) {
				t.Fatal("nothing was done")
			}
			wantBook(t, left, was)
			if b.Same(c) || c.Same(b) {
				t.Error("what was done to one is not seen by Same")
			}
		}
	}
}

// P11.5: Same holds names, amounts and who holds against each other, however the books came to be so.
func TestSame(t *testing.T) {
	texts := []string{
		"", "ann=0", "ann=1", "ann=1:x", "ann=1:y", "bob=1", "ann=1 bob=1", "ann=1 bob=1:x", "ann=1:x bob=1", "ann=1 bob=2", "ann=2 bob=1", "ann=1 boc=1",
	}
	for i, one := range texts {
		for k, other := range texts {
			if got := made(t, one).Same(made(t, other)); got != (i == k) {
				t.Errorf("%q, %q: Same is %v", one, other, got)
			}
		}
	}
	b := made(t, "zoe=5")
	for _, why := range []api.Errno{b.Open("ann"), b.Hold("zoe", "y"), b.Add("ann", 5), b.Take("ann", 4), b.Free("zoe", "y"), b.Hold("ann", "x")} {
		if why != api.OK {
			t.Fatalf("%d", why)
		}
	}
	if !b.Same(made(t, "ann=1:x zoe=5")) || !b.Same(b) {
		t.Error("the same by another way is not the same")
	}
}

// P1 (rules 4, 5): what a caller writes into an answer, or into what was handed in, is seen by nobody.
func TestMemory(t *testing.T) {
	const want = "ann=1 bob=2:x"
	b := made(t, want)
	for _, slot := range []int{-1, slotOf("ann")} {
		rows := b.Rows(slot)
		_ = append(rows, api.Row{Name: "more"})
		clear(rows)
	}
	p := b.Bytes()
	c, _ := Load(p)
	_ = append(p, "more"...)
	clear(p)
	wantBook(t, b, want)
	wantBook(t, c, want)
	p = b.Bytes()
	was := slices.Clone(p)
	if _, why := Load(p); why != api.OK || !slices.Equal(p, was) {
		t.Error("Load changes what is handed in")
	}
}
