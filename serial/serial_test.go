package serial

import (
	"fmt"
	"math"
	"strings"
	"testing"

	"almoner/api"
)

// P12.1, P12.2, P1: calls of nil.
func TestNil(t *testing.T) {
	var l *Ledger
	for kind := -1; kind <= 9; kind++ {
		wantDo(t, l, api.Op{Kind: kind, From: "ann", To: "bob", Amount: 1, Key: "k", Shard: 1}, api.ErrNil)
		wantDo(t, l, api.Op{Kind: kind}, api.ErrNil)
	}
	if n, why := l.Sum(); n != 0 || why != api.ErrNil {
		t.Errorf("Sum: %d, %d", n, why)
	}
	if l.Copy() != nil || l.Text() != "" {
		t.Error("Copy, Text")
	}
	if !l.Same(nil) || l.Same(New()) || New().Same(nil) {
		t.Error("nil is the same as nil alone")
	}
}

// P12.1, P1: a new ledger has no accounts, and keeps nothing; so does one that was not made by New.
func TestNew(t *testing.T) {
	for _, l := range []*Ledger{New(), {}} {
		if !l.Same(New()) || !New().Same(l) || !l.Copy().Same(l) {
			t.Error("Same")
		}
		wantText(t, l, "")
		wantDo(t, l, audit(), api.OK)
		wantDo(t, l, balance("ann"), api.ErrNone)
		if n, why := l.Sum(); n != 0 || why != api.OK {
			t.Errorf("Sum: %d, %d", n, why)
		}
		wantDo(t, l.Copy(), open("bob", "k"), api.OK)
		wantDo(t, l, withdraw("ann", 1, "k"), api.ErrNone)
		wantDo(t, l, open("ann", "o"), api.OK)
		wantText(t, l, "ann=0 ann/k:40 ann/o:0 ")
	}
	wantText(t, New(), "")
}

// The chapter's example, P12.1, P12.2.
func TestExample(t *testing.T) {
	l := New()
	wantDo(t, l, open("ann", "k1"), api.OK)
	wantDo(t, l, deposit("ann", 5, "k2"), api.OK)
	wantDo(t, l, deposit("ann", 5, "k2"), api.OK)
	if r := l.Do(balance("ann")); !same(r, api.Reply{Amount: 5}) {
		t.Errorf("Balance: %+v", r)
	}
	wantDo(t, l, deposit("ann", 6, "k2"), api.ErrKey)
	wantDo(t, l, transfer("ann", "bob", 5, "k3"), api.ErrNone)
	wantText(t, l, "ann=5 ann/k1:0 ann/k2:0 ann/k3:40 ")
}

// The document's examples of the whole, as far as one after another goes.
func TestExamplesOfTheWhole(t *testing.T) {
	l := New()
	for _, c := range []struct {
		o    api.Op
		want api.Reply
	}{
		{open("ann", "o"), api.Reply{}},
		{open("ann", "o"), api.Reply{}},
		{open("ann", "p"), api.Reply{Why: api.ErrTwice}},
		{deposit("ann", 5, "d"), api.Reply{}},
		{deposit("ann", 5, "d"), api.Reply{}},
		{deposit("ann", 6, "d"), api.Reply{Why: api.ErrKey}},
		{transfer("ann", "bob", 2, "t"), api.Reply{Why: api.ErrNone}},
		{open("bob", "o"), api.Reply{}},
		{transfer("ann", "bob", 2, "t"), api.Reply{Why: api.ErrNone}},
		{transfer("ann", "bob", 2, "u"), api.Reply{}},
		{balance("ann"), api.Reply{Amount: 3}},
		{withdraw("ann", 4, "w"), api.Reply{Why: api.ErrFunds}},
		{transfer("ann", "ann", 1, "x"), api.Reply{Why: api.ErrSelf}},
		{audit(), api.Reply{Rows: []api.Row{{Name: "ann", Amount: 3}, {Name: "bob", Amount: 2}}}},
		{api.Op{Kind: api.Move, Slot: 3, Shard: 1}, api.Reply{}},
	} {
		if r := l.Do(c.o); !same(r, c.want) {
			t.Errorf("Do %+v: %+v, want %+v", c.o, r, c.want)
		}
	}
	if n, why := l.Sum(); n != 5 || why != api.OK {
		t.Errorf("Sum: %d, %d", n, why)
	}
	wantText(t, l, "ann=3 bob=2 ann/d:0 ann/o:0 ann/p:41 ann/t:40 ann/u:0 ann/w:42 bob/o:0 ")
}

// P12.1, P12.6: a wrong operation is answered by what is wrong of it, ahead of all else, and nothing is kept of it.
func TestWrong(t *testing.T) {
	l := done(open("ann", "o"), open("bob", "o"), deposit("ann", 5, "d"), withdraw("ann", 9, "w"))
	was := l.Text()
	for _, c := range []struct {
		o    api.Op
		want api.Errno
	}{
		{api.Op{}, api.ErrArg},
		{api.Op{Kind: 8, From: "ann", Key: "d", Amount: 5}, api.ErrArg},
		{api.Op{Kind: math.MinInt, From: "ann"}, api.ErrArg},
		{api.Op{Kind: api.Move, Slot: 16, Shard: 1}, api.ErrArg},
		{api.Op{Kind: api.Move, Slot: 0, Shard: 4}, api.ErrArg},
		{open("Ann", "o"), api.ErrName},
		{open("carl", ""), api.ErrName},
		{balance(""), api.ErrName},
		{balance(strings.Repeat("n", 25)), api.ErrName},
		{deposit("ann", 0, "d"), api.ErrAmount},
		{deposit("ann", -5, "new"), api.ErrAmount},
		{withdraw("none", math.MinInt64, "d"), api.ErrAmount},
		{transfer("ann", "Bob", 1, "t"), api.ErrName},
		{transfer("ann", "bob", 0, "t"), api.ErrAmount},
		{transfer("ann", "ann", 1, "t"), api.ErrSelf},
		{transfer("none", "none", 1, "t"), api.ErrSelf},
	} {
		wantDo(t, l, c.o, c.want)
		wantText(t, l, was)
	}
}

// P12.1: Move, Audit and Balance change nothing, whatever else stands in them, and nothing is kept of them.
func TestAsked(t *testing.T) {
	l := done(open("bob", "o"), open("ann", "o"), deposit("bob", 5, "d"))
	was := l.Text()
	for range 2 {
		for _, c := range []struct {
			o    api.Op
			want api.Reply
		}{
			{api.Op{Kind: api.Move, Slot: 15, Shard: 3}, api.Reply{}},
			{api.Op{Kind: api.Move, Slot: 0, Shard: 1, From: "ann", Key: "o", Amount: 9}, api.Reply{}},
			{audit(), api.Reply{Rows: []api.Row{{Name: "ann"}, {Name: "bob", Amount: 5}}}},
			{api.Op{Kind: api.Audit, From: "bob", Key: "d", Amount: 5}, api.Reply{Rows: []api.Row{{Name: "ann"}, {Name: "bob", Amount: 5}}}},
			{balance("ann"), api.Reply{}},
			{balance("bob"), api.Reply{Amount: 5}},
			{api.Op{Kind: api.Balance, From: "bob", Key: "d", Amount: 9}, api.Reply{Amount: 5}},
			{balance("bo"), api.Reply{Why: api.ErrNone}},
			{api.Op{Kind: api.Balance, From: "carl", Key: "new"}, api.Reply{Why: api.ErrNone}},
		} {
			if r := l.Do(c.o); !same(r, c.want) {
				t.Errorf("Do %+v: %+v, want %+v", c.o, r, c.want)
			}
			wantText(t, l, was)
		}
	}
}

// P12.1: what each operation does, and what it refuses, at its edges; the error that is named first is told.
func TestDo(t *testing.T) {
	const most = math.MaxInt64
	for _, c := range []struct {
		o    api.Op
		want api.Errno
		rows string // where it changes something
	}{
		{open("carl", "k"), api.OK, "ann=5 bob=9223372036854775807 carl=0 dan=0"},
		{open("ann", "k"), api.ErrTwice, ""},
		{open("dan", "k"), api.ErrTwice, ""},

		{deposit("ann", 1, "k"), api.OK, "ann=6 bob=9223372036854775807 dan=0"},
		{deposit("ann", most-5, "k"), api.OK, "ann=9223372036854775807 bob=9223372036854775807 dan=0"},
		{deposit("ann", most-4, "k"), api.ErrOver, ""},
		{deposit("bob", 1, "k"), api.ErrOver, ""},
		{deposit("bob", most, "k"), api.ErrOver, ""},
		{deposit("carl", 1, "k"), api.ErrNone, ""},

		{withdraw("ann", 4, "k"), api.OK, "ann=1 bob=9223372036854775807 dan=0"},
		{withdraw("ann", 5, "k"), api.OK, "ann=0 bob=9223372036854775807 dan=0"},
		{withdraw("ann", 6, "k"), api.ErrFunds, ""},
		{withdraw("ann", most, "k"), api.ErrFunds, ""},
		{withdraw("bob", most, "k"), api.OK, "ann=5 bob=0 dan=0"},
		{withdraw("dan", 1, "k"), api.ErrFunds, ""},
		{withdraw("carl", 1, "k"), api.ErrNone, ""},

		{transfer("ann", "dan", 5, "k"), api.OK, "ann=0 bob=9223372036854775807 dan=5"},
		{transfer("ann", "dan", 1, "k"), api.OK, "ann=4 bob=9223372036854775807 dan=1"},
		{transfer("bob", "dan", most, "k"), api.OK, "ann=5 bob=0 dan=9223372036854775807"},
		{transfer("ann", "dan", 6, "k"), api.ErrFunds, ""},
		{transfer("ann", "carl", 6, "k"), api.ErrFunds, ""},
		{transfer("ann", "bob", 6, "k"), api.ErrFunds, ""},
		{transfer("ann", "carl", 5, "k"), api.ErrNone, ""},
		{transfer("carl", "ann", 5, "k"), api.ErrNone, ""},
		{transfer("carl", "carla", 5, "k"), api.ErrNone, ""},
		{transfer("ann", "bob", 1, "k"), api.ErrOver, ""},
		{transfer("bob", "ann", most, "k"), api.ErrOver, ""},
		{transfer("bob", "ann", most-4, "k"), api.ErrOver, ""},
		{transfer("bob", "ann", most-5, "k"), api.OK, "ann=9223372036854775807 bob=5 dan=0"},
	} {
		l := done(open("dan", "o"), open("ann", "o"), open("bob", "o"), deposit("ann", 5, "d"), deposit("bob", most, "d"))
		if c.want != api.OK {
			c.rows = rows(l)
		}
		for range 3 {
			wantDo(t, l, c.o, c.want)
			if got := rows(l); got != c.rows {
				t.Errorf("behind %+v: %s; want %s", c.o, got, c.rows)
			}
		}
		if kept := fmt.Sprintf(" %s/k:%d ", c.o.From, c.want); !strings.Contains(l.Text(), kept) {
			t.Errorf("of %+v this is kept: %s", c.o, l.Text())
		}
	}
}

// P12.1, P12.5: a key that was used for another Kind, To of Transfer, or Amount but of Open, is ErrKey; what plays no part does not.
func TestKey(t *testing.T) {
	spoiled := func(o api.Op, spoil func(o *api.Op)) api.Op {
		spoil(&o)
		return o
	}
	first := []api.Op{open("ann", "k"), deposit("ann", 2, "k"), withdraw("ann", 2, "k"), transfer("ann", "bob", 2, "k")}
	for i, o := range first {
		for _, poor := range []bool{false, true} {
			start := []api.Op{open("ann", "a"), open("bob", "a"), open("carl", "a"), deposit("ann", 9, "b")}
			if poor {
				start = nil
			}
			l := done(start...)
			was := l.Do(o)
			text := l.Text()
			for _, c := range []struct {
				o    api.Op
				same bool
			}{
				{o, true},
				{spoiled(o, func(o *api.Op) { o.Slot, o.Shard = -1, 99 }), true},
				{spoiled(o, func(o *api.Op) { o.Amount = 3 }), o.Kind == api.Open},
				{spoiled(o, func(o *api.Op) { o.To = "carl" }), o.Kind != api.Transfer},
				{first[(i+1)%4], false},
				{first[(i+2)%4], false},
				{first[(i+3)%4], false},
				{transfer("ann", "carl", 3, "k"), false},
			} {
				want := was
				if !c.same {
					want = api.Reply{Why: api.ErrKey}
				}
				if r := l.Do(c.o); !same(r, want) {
					t.Errorf("behind %+v (%+v) Do %+v: %+v, want %+v", o, was, c.o, r, want)
				}
				wantText(t, l, text)
			}
		}
	}
	// A key is one of an account: the same key of another one is another one.
	l := done(open("ann", "k"))
	wantDo(t, l, open("bob", "k"), api.OK)
	wantDo(t, l, deposit("bob", 1, "kk"), api.OK)
	wantDo(t, l, open("bobk", "k"), api.OK)
	wantText(t, l, "ann=0 bob=1 bobk=0 ann/k:0 bob/k:0 bob/kk:0 bobk/k:0 ")
}

// P12.1, P12.5: an answer is kept, an error too, whatever has changed since.
func TestKeptAnswers(t *testing.T) {
	l := New()
	wantDo(t, l, deposit("ann", 5, "d"), api.ErrNone)
	wantDo(t, l, transfer("ann", "bob", 5, "t"), api.ErrNone)
	wantDo(t, l, open("ann", "o"), api.OK)
	wantDo(t, l, withdraw("ann", 5, "w"), api.ErrFunds)
	wantDo(t, l, transfer("ann", "bob", 5, "u"), api.ErrFunds)
	wantDo(t, l, deposit("ann", 5, "e"), api.OK)
	wantDo(t, l, transfer("ann", "bob", 5, "v"), api.ErrNone)
	wantDo(t, l, open("bob", "o"), api.OK)
	wantDo(t, l, deposit("bob", math.MaxInt64, "d"), api.OK)
	wantDo(t, l, transfer("ann", "bob", 5, "x"), api.ErrOver)
	wantDo(t, l, withdraw("bob", math.MaxInt64, "w"), api.OK)
	for _, c := range []struct {
		o    api.Op
		want api.Errno
	}{
		{deposit("ann", 5, "d"), api.ErrNone},
		{transfer("ann", "bob", 5, "t"), api.ErrNone},
		{open("ann", "o"), api.OK},
		{withdraw("ann", 5, "w"), api.ErrFunds},
		{transfer("ann", "bob", 5, "u"), api.ErrFunds},
		{deposit("ann", 5, "e"), api.OK},
		{transfer("ann", "bob", 5, "v"), api.ErrNone},
		{transfer("ann", "bob", 5, "x"), api.ErrOver},
		{deposit("bob", math.MaxInt64, "d"), api.OK},
	} {
		wantDo(t, l, c.o, c.want)
	}
	wantText(t, l, "ann=5 bob=0 ann/d:40 ann/e:0 ann/o:0 ann/t:40 ann/u:42 ann/v:40 ann/w:42 ann/x:43 bob/d:0 bob/o:0 bob/w:0 ")
}

// P12.2: Sum at its edge.
func TestSum(t *testing.T) {
	const most = math.MaxInt64
	for _, c := range []struct {
		has  []int64
		want int64
		why  api.Errno
	}{
		{[]int64{1, 2, 3}, 6, api.OK},
		{[]int64{most}, most, api.OK},
		{[]int64{most - 1, 1}, most, api.OK},
		{[]int64{1, most - 1}, most, api.OK},
		{[]int64{most, 1}, 0, api.ErrOver},
		{[]int64{1, most}, 0, api.ErrOver},
		{[]int64{most, most}, 0, api.ErrOver},
		{[]int64{most, most, most}, 0, api.ErrOver},
		{[]int64{1 << 62, 1 << 62}, 0, api.ErrOver},
		{[]int64{1 << 62, 1 << 62, 1 << 62, 1 << 62}, 0, api.ErrOver},
	} {
		l := New()
		for i, n := range c.has {
			name := string(rune('a' + i))
			wantDo(t, l, open(name, "o"), api.OK)
			wantDo(t, l, deposit(name, n, "d"), api.OK)
		}
		if got, why := l.Sum(); got != c.want || why != c.why {
			t.Errorf("Sum of %v: %d, %d; want %d, %d", c.has, got, why, c.want, c.why)
		}
	}
}

// P12.2: Text tells accounts and kept answers in the order of the bytes of their names, then keys.
func TestText(t *testing.T) {
	l := New()
	for _, name := range []string{"b", "ab", "a_", "a0", "a", "_"} {
		for _, key := range []string{"z", "_", "0", "a", "a0"} {
			wantDo(t, l, deposit(name, 7, key), api.ErrNone)
		}
		wantDo(t, l, open(name, "o"), api.OK)
	}
	wantDo(t, l, deposit("a_", math.MaxInt64, "p"), api.OK)
	kept := ""
	for _, name := range []string{"_", "a", "a0", "a_", "ab", "b"} {
		for _, key := range []string{"0", "_", "a", "a0", "o", "p", "z"} {
			switch {
			case key == "o" || key == "p" && name == "a_":
				kept += name + "/" + key + ":0 "
			case key != "p":
				kept += name + "/" + key + ":40 "
			}
		}
	}
	wantText(t, l, "_=0 a=0 a0=0 a_=9223372036854775807 ab=0 b=0 "+kept)
}

// P12.2: a copy is the same, and goes its own way.
func TestCopy(t *testing.T) {
	for _, o := range []api.Op{
		open("zoe", "k"), open("ann", "k"), deposit("ann", 1, "k"), withdraw("bob", 1, "k"), withdraw("ann", 1, "k"), transfer("bob", "ann", 1, "k"), transfer("bob", "zoe", 1, "k"),
	} {
		for _, ofCopy := range []bool{false, true} {
			l := done(open("ann", "o"), open("bob", "o"), deposit("bob", 5, "d"))
			c := l.Copy()
			was := l.Text()
			if l == c || !l.Same(c) || !c.Same(l) {
				t.Fatal("a copy is not the same")
			}
			wantText(t, c, was)
			changed, left := l, c
			if ofCopy {
				changed, left = c, l
			}
			changed.Do(o)
			wantText(t, left, was)
			if l.Same(c) || c.Same(l) || changed.Text() == was {
				t.Errorf("what %+v did is not seen", o)
			}
			left.Do(o)
			if !l.Same(c) || !c.Same(l) {
				t.Errorf("a copy does %+v in another way", o)
			}
		}
	}
}

// P12.2: Same holds accounts, amounts, and kept answers with their operations against each other.
func TestSame(t *testing.T) {
	all := []*Ledger{
		New(),
		done(open("ann", "o")),
		done(open("ann", "p")),
		done(open("bob", "o")),
		done(open("ann", "o"), open("bob", "o")),
		done(open("ann", "o"), deposit("ann", 5, "d")),
		done(open("ann", "o"), deposit("ann", 6, "d")),
		done(open("ann", "o"), deposit("ann", 5, "e")),
		done(open("ann", "o"), withdraw("ann", 5, "d")),
		done(open("ann", "o"), withdraw("ann", 6, "d")),
		done(open("ann", "o"), transfer("ann", "bob", 5, "d")),
		done(open("ann", "o"), transfer("ann", "carl", 5, "d")),
		done(withdraw("ann", 5, "o")),
		done(deposit("ann", 5, "o")),
	}
	for i, a := range all {
		for k, b := range all {
			if a.Same(b) != (i == k) {
				t.Errorf("%s and %s: Same is %v", a.Text(), b.Text(), i != k)
			}
		}
	}
	a := done(open("ann", "o"), open("bob", "o"), deposit("ann", 5, "d"))
	other := open("ann", "o")
	other.To, other.Amount, other.Slot = "bob", 7, 9
	b := done(open("bob", "o"), other, deposit("ann", 5, "d"), deposit("ann", 5, "d"), deposit("ann", 6, "d"), balance("ann"))
	if !a.Same(b) || !b.Same(a) {
		t.Error("the same by another way is not the same")
	}
}

// P12.1: neither accounts nor kept answers have a bound.
func TestManyAccounts(t *testing.T) {
	const count = 1234
	l, turned := New(), New()
	name := func(i int) string { return fmt.Sprintf("n%04d", i) }
	for i := range count {
		wantDo(t, l, open(name(i*7%count), "o"), api.OK)
		wantDo(t, turned, open(name(count-1-i), "o"), api.OK)
	}
	if !l.Same(turned) || !turned.Same(l) || l.Text() != turned.Text() {
		t.Error("accounts that were opened in another order are not the same")
	}
	c := l.Copy()
	for i := range count {
		wantDo(t, l, open(name(i), "p"), api.ErrTwice)
		wantDo(t, l, deposit(name(i), int64(i+1), "d"), api.OK)
		wantDo(t, l, transfer(name(i), name((i+617)%count), 1, "t"), api.OK)
		wantDo(t, l, withdraw(name(i), math.MaxInt64, "w"), api.ErrFunds)
	}
	if !c.Same(turned) || l.Same(turned) {
		t.Error("what was done to one is done to its copy")
	}
	if n, why := l.Sum(); n != count*(count+1)/2 || why != api.OK {
		t.Errorf("Sum: %d, %d", n, why)
	}
	r := l.Do(audit())
	if len(r.Rows) != count || !Fits(audit(), r) {
		t.Errorf("Audit: %d rows", len(r.Rows))
	}
	for i, row := range r.Rows {
		if row != (api.Row{Name: name(i), Amount: int64(i + 1)}) {
			t.Errorf("row %d: %v", i, row)
		}
		if b := l.Do(balance(name(i))); !same(b, api.Reply{Amount: row.Amount}) {
			t.Errorf("Balance: %+v, want %v", b, row)
		}
	}
	for key := range count {
		wantDo(t, l, deposit("none", 1, fmt.Sprint("k", key)), api.ErrNone)
	}
	wantDo(t, l, deposit("none", 2, "k0"), api.ErrKey)
	if n := strings.Count(l.Text(), ":"); n != 6*count {
		t.Errorf("%d answers are kept", n)
	}
}

// P1 (rule 4): what a caller writes into an answer is seen by no later one.
func TestMemory(t *testing.T) {
	l := done(open("ann", "o"), open("bob", "o"))
	r := l.Do(audit())
	_ = append(r.Rows, api.Row{Name: "more"})
	clear(r.Rows)
	if got := rows(l); got != "ann=0 bob=0" {
		t.Errorf("Audit: %s", got)
	}
}
