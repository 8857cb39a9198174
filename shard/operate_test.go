package shard

import (
	"fmt"
	"math"
	"math/rand"
	"testing"

	"almoner/api"
	"almoner/book"
	"almoner/serial"
)

// Of two shards the first one owns the slots of ann (0), fay (0), bob (4), eve (8) and carl (10), the second one those of dora, hal (1) and gil (5).

// P13.2, P1: wrong operations, and those that are not a shard's, whatever else stands in their way.
func TestWrongOps(t *testing.T) {
	s := with(t, 2, open("ann", "o"), deposit("ann", 5, "d"))
	for _, frozen := range []bool{false, true} {
		if frozen {
			s.Do(freeze(1))
		}
		for _, o := range []api.Op{
			{}, {Kind: 8, From: "ann", Key: "k"}, {Kind: -1}, {Kind: math.MinInt}, {Kind: math.MaxInt},
			open("", "k"), open("Ann", "k"), open("ann", ""), open("dora", "a b"),
			deposit("ann", 0, "k"), deposit("dora", -1, "k"), withdraw("ann", math.MinInt64, "k"),
			transfer("ann", "", 1, "k"), transfer("ann", "ann", 1, "k"), transfer("dora", "dora", 1, "k"), balance(""),
			{Kind: api.Move, Slot: 16, Shard: 1}, {Kind: api.Move, Shard: 4},
		} {
			wantOpStill(t, s, o, book.Wrong(o))
		}
		wantOpStill(t, s, api.Op{Kind: api.Audit}, api.ErrRetry)
		wantOpStill(t, s, api.Op{Kind: api.Move, Slot: 3, Shard: 2}, api.ErrRetry)
	}
}

// P13.2: operations on accounts of slots that are another one's, or held back.
func TestNotItsSlot(t *testing.T) {
	s := with(t, 2, open("ann", "o"), deposit("ann", 5, "d"), open("bob", "o"))
	for _, o := range []api.Op{open("dora", "o"), deposit("dora", 1, "d"), withdraw("gil", 1, "w"), transfer("gil", "ann", 1, "t"), balance("dora")} {
		wantOpStill(t, s, o, api.ErrRetry)
	}
	if r := s.Do(hold(0, 1)); r.Why != api.OK {
		t.Fatalf("Hold: %+v", r)
	}
	for _, o := range []api.Op{open("ann", "o"), open("fay", "o"), deposit("ann", 6, "d"), withdraw("ann", 1, "w"), transfer("ann", "bob", 1, "t"), balance("ann"), balance("fay")} {
		wantOpStill(t, s, o, api.ErrRetry)
	}
	wantOp(t, s, open("bob", "o"), api.OK)
	wantOp(t, s, open("bob", "p"), api.ErrTwice)
}

// P13.2, P13.4: what is done and kept within a shard, as one after another.
func TestOps(t *testing.T) {
	s := mustNew(t, 1, 2)
	for _, c := range []struct {
		o    api.Op
		why  api.Errno
		rows string
	}{
		{deposit("ann", 1, "early"), api.ErrNone, ""},
		{withdraw("ann", 1, "early_"), api.ErrNone, ""},
		{transfer("ann", "bob", 1, "t0"), api.ErrNone, ""},
		{transfer("ann", "dora", 1, "t1"), api.ErrNone, ""},
		{open("ann", "o"), api.OK, "ann=0"},
		{open("ann", "p"), api.ErrTwice, "ann=0"},
		{deposit("ann", 5, "d"), api.OK, "ann=5"},
		{deposit("ann", math.MaxInt64-4, "e"), api.ErrOver, "ann=5"},
		{withdraw("ann", 6, "w"), api.ErrFunds, "ann=5"},
		{withdraw("ann", 1, "x"), api.OK, "ann=4"},
		{transfer("ann", "bob", 5, "t2"), api.ErrFunds, "ann=4"},
		{transfer("ann", "dora", 5, "t3"), api.ErrFunds, "ann=4"},
		{transfer("ann", "bob", 4, "t4"), api.ErrNone, "ann=4"},
		{open("bob", "o"), api.OK, "ann=4 bob=0"},
		{transfer("ann", "bob", 4, "t5"), api.OK, "ann=0 bob=4"},
		{deposit("ann", math.MaxInt64, "f"), api.OK, "ann=9223372036854775807 bob=4"},
		{transfer("bob", "ann", 1, "t6"), api.ErrOver, "ann=9223372036854775807 bob=4"},
	} {
		wantOp(t, s, c.o, c.why)
		wantRows(t, s, c.rows)
		// It is kept, whatever else the operation has that plays no part in it.
		again := c.o
		again.Slot, again.Shard = 9, 2
		if again.Kind == api.Open {
			again.Amount = 7
		}
		if again.Kind != api.Transfer {
			again.To = "zoe"
		}
		wantOpStill(t, s, again, c.why)
		for _, other := range others(c.o) {
			wantOpStill(t, s, other, api.ErrKey)
		}
	}
	wantStill(t, s, op(balance("bob")), Result{Reply: api.Reply{Amount: 4}})
	wantOpStill(t, s, balance("eve"), api.ErrNone)
	wantTxns(t, s)
}

// others is operations with the From and Key of one that are other ones.
func others(o api.Op) []api.Op {
	var l []api.Op
	for kind := api.Open; kind <= api.Transfer; kind++ {
		if kind != o.Kind {
			other := api.Op{Kind: kind, From: o.From, Key: o.Key, To: "carl", Amount: max(o.Amount, 1)}
			l = append(l, other)
		}
	}
	if o.Kind != api.Open {
		other := o
		other.Amount = o.Amount%7 + 1
		if other.Amount == o.Amount {
			other.Amount++
		}
		l = append(l, other)
	}
	if o.Kind == api.Transfer {
		other := o
		other.To = "carl"
		l = append(l, other)
	}
	return l
}

// P13.2: a transfer to another shard begins, and what is in its way from then on.
func TestTransferBegins(t *testing.T) {
	s := with(t, 2, open("ann", "o"), deposit("ann", 5, "d"), open("bob", "o"), deposit("bob", 9, "d"))
	wantWait(t, s, transfer("ann", "dora", 2, "t"))
	first := Txn{Id: "ann/t/1.1", From: "ann", Key: "t", To: "dora", N: 2}
	wantTxns(t, s, first)
	wantRows(t, s, "ann=3 bob=9")
	if s.Busy() != 1 {
		t.Errorf("Busy %d", s.Busy())
	}
	for _, o := range []api.Op{
		balance("ann"), transfer("ann", "dora", 2, "t"), deposit("ann", 2, "t"), open("ann", "new"), deposit("ann", 1, "new"),
		withdraw("ann", 9, "new"), transfer("ann", "bob", 1, "new"), transfer("bob", "ann", 1, "new"),
	} {
		wantOpStill(t, s, o, api.ErrRetry)
	}
	// What is kept is answered even so.
	wantOpStill(t, s, deposit("ann", 5, "d"), api.OK)
	wantOpStill(t, s, deposit("ann", 6, "d"), api.ErrKey)
	wantOp(t, s, transfer("bob", "ann", 10, "funds"), api.ErrFunds)
	wantWait(t, s, transfer("bob", "gil", 9, "t"))
	wantTxns(t, s, first, Txn{Id: "bob/t/1.2", From: "bob", Key: "t", To: "gil", N: 9})
	wantRows(t, s, "ann=3 bob=0")
}

// P13.2: a transfer to a slot of its own that is held back, or to an account that is held, is not kept.
func TestTransferWithinWaits(t *testing.T) {
	s := with(t, 2, open("ann", "o"), deposit("ann", 5, "d"), open("bob", "o"))
	wantWhy(t, s, prepare("x", "bob", 1), api.OK)
	wantOpStill(t, s, transfer("ann", "bob", 1, "t"), api.ErrRetry)
	wantWhy(t, s, finish("x", "bob", api.ErrRetry), api.OK)
	if r := s.Do(hold(4, 1)); r.Why != api.OK {
		t.Fatalf("Hold: %+v", r)
	}
	wantOpStill(t, s, transfer("ann", "bob", 1, "t"), api.ErrRetry)
	wantOpStill(t, s, transfer("ann", "una", 1, "t"), api.ErrRetry)
	wantOp(t, s, transfer("ann", "bob", 6, "funds"), api.ErrFunds)
	wantWhy(t, s, drop(4, 1), api.OK)
	wantWait(t, s, transfer("ann", "bob", 1, "t"))
}

// P13.2: a shard that is frozen does nothing new, but tells.
func TestFrozenOps(t *testing.T) {
	s := with(t, 2, open("ann", "o"), deposit("ann", 5, "d"), open("bob", "o"))
	want(t, s, freeze(1), Result{Reply: api.Reply{Rows: s.Rows()}})
	for _, o := range []api.Op{open("eve", "o"), open("ann", "p"), deposit("ann", 1, "e"), withdraw("ann", 9, "w"), transfer("ann", "bob", 1, "t"), transfer("ann", "dora", 1, "t"), deposit("eve", 1, "d")} {
		wantOpStill(t, s, o, api.ErrRetry)
	}
	wantStill(t, s, op(balance("ann")), Result{Reply: api.Reply{Amount: 5}})
	wantOpStill(t, s, balance("eve"), api.ErrNone)
	wantOpStill(t, s, deposit("ann", 5, "d"), api.OK)
	wantOpStill(t, s, deposit("ann", 6, "d"), api.ErrKey)
}

// P13.2: the most accounts that there can be.
func TestMostRows(t *testing.T) {
	d := first(1, 1)
	for n := range api.MaxRows - 1 {
		d.accounts = append(d.accounts, holding{name: fmt.Sprintf("m%03d", n)})
	}
	s := mustLoad(t, d)
	wantOp(t, s, open("ann", "o"), api.OK)
	wantOpStill(t, s, open("bob", "o"), api.ErrRetry)
	wantOp(t, s, open("ann", "p"), api.ErrTwice)
	wantOpStill(t, s, open("bob", "o"), api.ErrRetry)
	if len(s.Rows()) != api.MaxRows {
		t.Errorf("%d accounts", len(s.Rows()))
	}
}

// P13.2: the most answers and transfers, together, that there can be; one that is decided is there twice.
func TestMostKept(t *testing.T) {
	s := with(t, 2, open("ann", "o"), deposit("ann", 500, "d"), open("bob", "o"), deposit("bob", 500, "d"))
	for n := len(s.kept); n < api.MaxKept-2; n++ {
		wantOp(t, s, deposit("eve", 1, fmt.Sprint("k", n)), api.ErrNone)
	}
	wantWait(t, s, transfer("ann", "dora", 1, "t"))
	wantWait(t, s, transfer("bob", "dora", 1, "t"))
	full := func() {
		t.Helper()
		for _, o := range []api.Op{deposit("eve", 1, "new"), open("fay", "new"), withdraw("eve", 1, "new"), transfer("eve", "ann", 1, "new"), transfer("fay", "dora", 1, "new")} {
			wantOpStill(t, s, o, api.ErrRetry)
		}
		wantOpStill(t, s, deposit("eve", 1, "k9"), api.ErrNone)
		wantOpStill(t, s, deposit("eve", 2, "k9"), api.ErrKey)
		wantOpStill(t, s, balance("eve"), api.ErrNone)
	}
	full()
	want(t, s, decide("ann/t/1.1", api.OK), Result{})
	want(t, s, decide("bob/t/1.2", api.ErrRetry), Result{Reply: api.Reply{Why: api.ErrRetry}})
	full()
	wantWhy(t, s, end("ann/t/1.1"), api.OK)
	full()
	wantWhy(t, s, end("bob/t/1.2"), api.OK)
	wantOp(t, s, open("carl", "new"), api.OK)
	full()
}

// P13.3: how many transfers can ever begin; what does not begin goes on.
func TestMostBegun(t *testing.T) {
	d := first(1, 2)
	d.accounts = []holding{{"ann", 9, ""}, {"bob", 9, ""}}
	d.began = 1<<60 - 1
	s := mustLoad(t, d)
	wantWait(t, s, transfer("ann", "dora", 1, "t"))
	wantTxns(t, s, Txn{Id: "ann/t/1.1152921504606846976", From: "ann", Key: "t", To: "dora", N: 1})
	wantOpStill(t, s, transfer("bob", "dora", 1, "t"), api.ErrRetry)
	wantOp(t, s, transfer("bob", "dora", 10, "u"), api.ErrFunds)
	wantOp(t, s, transfer("bob", "eve", 1, "v"), api.ErrNone)
	if again, why := Load(s.Image()); why != api.OK {
		t.Errorf("Load behind the last one: %v, %d", again, why)
	}
}

// P13.4: a shard alone answers as one after another.
func TestAlone(t *testing.T) {
	answers := map[api.Errno]int{}
	for seed := range int64(120) {
		r := rand.New(rand.NewSource(seed))
		s, l := mustNew(t, 1, 1), serial.New()
		names := 2 + r.Intn(8)
		for range 400 {
			o := someOp(r, names, 25)
			if o.Kind == api.Audit || o.Kind == api.Move || s.room() <= 0 && s.kept[asked(o)] == (answer{}) && o.Kind != api.Balance {
				continue
			}
			p := l.Do(o)
			answers[p.Why]++
			want(t, s, op(o), Result{Reply: p})
			if r.Intn(30) == 0 {
				s = s.Copy()
			}
		}
		if got, want := toldRows(s.Rows()), toldRows(l.Do(api.Op{Kind: api.Audit}).Rows); got != want {
			t.Fatalf("Rows %s; want %s", got, want)
		}
	}
	for _, why := range []api.Errno{api.OK, api.ErrNone, api.ErrTwice, api.ErrFunds, api.ErrOver, api.ErrKey, api.ErrSelf, api.ErrAmount, api.ErrName} {
		if answers[why] < 100 {
			t.Errorf("%d was answered %d times", why, answers[why])
		}
	}
}

// someOp is an operation on a few accounts, with a few keys; most are right.
func someOp(r *rand.Rand, names, keys int) api.Op {
	amounts := []int64{-1, 0, 1, 2, 3, 5, 8, math.MaxInt64 - 1, math.MaxInt64}
	o := api.Op{
		Kind:   []int{1, 1, 2, 2, 2, 3, 3, 4, 4, 4, 4, 5, 6, 7, 8}[r.Intn(15)],
		From:   fmt.Sprintf("n%d", r.Intn(names)),
		To:     fmt.Sprintf("n%d", r.Intn(names)),
		Key:    fmt.Sprintf("k%d", r.Intn(keys)),
		Amount: 1 + r.Int63n(9),
		Slot:   r.Intn(16),
		Shard:  1 + r.Intn(3),
	}
	switch r.Intn(12) {
	case 0, 1:
		o.Amount = amounts[r.Intn(len(amounts))]
	case 2:
		*[]*string{&o.From, &o.To, &o.Key}[r.Intn(3)] = []string{"", "N", "n n"}[r.Intn(3)]
	}
	return o
}
