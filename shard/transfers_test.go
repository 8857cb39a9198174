package shard

import (
	"fmt"
	"math"
	"slices"
	"strings"
	"testing"

	"almoner/api"
)

// P13.2: the chapter's example.
func TestExample(t *testing.T) {
	a, b := with(t, 2, open("ann", "o"), deposit("ann", 9, "d")), mustNew(t, 2, 2)
	wantOp(t, b, open("dora", "o"), api.OK)
	wantWait(t, a, transfer("ann", "dora", 5, "k"))
	wantWhy(t, b, prepare("ann/k/1.1", "dora", 5), api.OK)
	want(t, a, decide("ann/k/1.1", api.OK), Result{})
	wantWhy(t, b, finish("ann/k/1.1", "dora", api.OK), api.OK)
	wantWhy(t, a, end("ann/k/1.1"), api.OK)
	wantOp(t, a, transfer("ann", "dora", 5, "k"), api.OK)
	wantRows(t, a, "ann=4")
	wantRows(t, b, "dora=5")
	if a.Busy() != 0 || b.Busy() != 0 || len(a.Pending()) != 0 {
		t.Errorf("busy: %d, %d, %v", a.Busy(), b.Busy(), a.Pending())
	}
}

// P13.2, P13.7: what Prepare answers, by the first error where several apply.
func TestPrepare(t *testing.T) {
	long := strings.Repeat("i", 80)
	s := with(t, 2, open("ann", "o"), open("bob", "o"), deposit("bob", math.MaxInt64-5, "d"), open("eve", "o"))
	wantWhy(t, s, finish("gone", "ann", api.ErrRetry), api.OK)
	wantWhy(t, s, prepare("held", "eve", 1), api.OK)
	wantRefused(t, s, prepare("held", "eve", 1), api.OK)
	wantRefused(t, s, prepare("held", "eve", 2), api.OK)
	for _, c := range []struct {
		c   Cmd
		why api.Errno
	}{
		{prepare("", "ann", 1), api.ErrArg},
		{prepare(long+"i", "ann", 1), api.ErrArg},
		{prepare("x", "", 1), api.ErrArg},
		{prepare("x", "Ann", 1), api.ErrArg},
		{prepare("x", strings.Repeat("n", 25), 1), api.ErrArg},
		{prepare("x", "ann", 0), api.ErrArg},
		{prepare("x", "ann", math.MinInt64), api.ErrArg},
		{prepare("x", "dora", 0), api.ErrArg},
		{prepare("held", "eve", 0), api.ErrArg},
		{prepare("x", "dora", 1), api.ErrState},
		{prepare("gone", "ann", 1), api.ErrState},
		{prepare("gone", "eve", 1), api.ErrState},
		{prepare("gone", "carl", 1), api.ErrState},
		{prepare("x", "eve", 1), api.ErrRetry},
		{prepare("x", "carl", 1), api.ErrNone},
		{prepare("held", "carl", math.MaxInt64), api.ErrNone},
		{prepare("x", "bob", 6), api.ErrOver},
		{prepare("x", "bob", math.MaxInt64), api.ErrOver},
	} {
		wantRefused(t, s, c.c, c.why)
	}
	wantRows(t, s, "ann=0 bob=9223372036854775802 eve=0")
	wantWhy(t, s, prepare(long, "bob", 5), api.OK)
	wantWhy(t, s, prepare(long, "ann", math.MaxInt64), api.OK)
	want := map[part]int64{{"held", "eve"}: 1, {long, "bob"}: 5, {long, "ann"}: math.MaxInt64}
	if len(s.prepared) != 3 || s.Busy() != 3 {
		t.Errorf("prepared %v, want %v; Busy %d", s.prepared, want, s.Busy())
	}
	for p, n := range want {
		if s.prepared[p] != n {
			t.Errorf("prepared %v, want %v", s.prepared, want)
		}
	}
}

// P13.2: nothing is prepared in a slot that is held back, nor while it is frozen; what is prepared stays.
func TestPrepareWaits(t *testing.T) {
	s := with(t, 2, open("ann", "o"), open("bob", "o"))
	wantWhy(t, s, prepare("x", "ann", 1), api.OK)
	wantWhy(t, s, freeze(1), api.ErrRetry)
	wantRefused(t, s, prepare("x", "ann", 1), api.OK)
	wantRefused(t, s, prepare("y", "bob", 1), api.ErrRetry)
	wantRefused(t, s, prepare("y", "carl", 1), api.ErrRetry)
	wantRefused(t, s, prepare("y", "ann", 1), api.ErrRetry)
	wantRefused(t, s, prepare("y", "dora", 1), api.ErrState)
	wantWhy(t, s, thaw(1), api.OK)
	wantWhy(t, s, hold(0, 1), api.ErrRetry)
	wantRefused(t, s, prepare("x", "ann", 1), api.ErrState)
	wantRefused(t, s, prepare("y", "fay", 1), api.ErrState)
	wantWhy(t, s, prepare("y", "bob", 1), api.OK)
	if s.Busy() != 3 {
		t.Errorf("Busy %d: two are held, and a slot is held back", s.Busy())
	}
	// What was prepared ahead of that is finished.
	wantWhy(t, s, finish("x", "ann", api.OK), api.OK)
	wantRows(t, s, "ann=1 bob=0")
}

// P13.2: a transfer's own id holds its From.
func TestPrepareOfOwn(t *testing.T) {
	s := with(t, 2, open("ann", "o"), deposit("ann", 5, "d"))
	wantWait(t, s, transfer("ann", "dora", 5, "k"))
	wantRefused(t, s, prepare("ann/k/1.1", "ann", 5), api.OK)
	wantRefused(t, s, prepare("ann/k/1.2", "ann", 5), api.ErrRetry)
	// Nothing was prepared, so that nothing is added.
	wantWhy(t, s, finish("ann/k/1.1", "ann", api.OK), api.OK)
	wantRows(t, s, "ann=0")
	want(t, s, decide("ann/k/1.1", api.ErrNone), Result{Reply: api.Reply{Why: api.ErrNone}})
	wantRows(t, s, "ann=5")
}

// P13.2: how many can be done and prepared, together.
func TestMostParts(t *testing.T) {
	s := with(t, 1, open("ann", "o"), open("bob", "o"), open("eve", "o"))
	for n := range api.MaxKept - 2 {
		wantWhy(t, s, finish(fmt.Sprint("x", n), "carl", api.ErrNone), api.OK)
	}
	wantWhy(t, s, prepare("y", "ann", 1), api.OK)
	wantWhy(t, s, prepare("y", "bob", 2), api.OK)
	full := func() {
		t.Helper()
		wantRefused(t, s, prepare("z", "eve", 1), api.ErrRetry)
		wantRefused(t, s, prepare("z", "gil", 1), api.ErrRetry)
		wantRefused(t, s, finish("z", "eve", api.ErrNone), api.ErrState)
		wantRefused(t, s, finish("x7", "eve", api.ErrNone), api.OK)
	}
	full()
	wantRefused(t, s, prepare("y", "bob", 2), api.OK)
	wantWhy(t, s, finish("y", "bob", api.OK), api.OK)
	full()
	wantWhy(t, s, finish("y", "ann", api.ErrOver), api.OK)
	full()
	wantRows(t, s, "ann=0 bob=2 eve=0")
	if n := len(s.done); n != api.MaxKept || s.done[n-1] != (part{"y", "ann"}) || s.done[n-2] != (part{"y", "bob"}) {
		t.Errorf("%d are done: %v", n, s.done)
	}
}

// P13.2: the last place is taken by one that was not prepared, or by one that is.
func TestLastPart(t *testing.T) {
	s := with(t, 1, open("ann", "o"))
	for n := range api.MaxKept - 1 {
		wantWhy(t, s, finish(fmt.Sprint("x", n), "carl", api.ErrNone), api.OK)
	}
	other := s.Copy()
	wantWhy(t, s, finish("last", "carl", api.ErrNone), api.OK)
	wantRefused(t, s, finish("more", "carl", api.ErrNone), api.ErrState)
	wantRefused(t, s, finish("last", "carl", api.ErrNone), api.OK)
	wantWhy(t, other, prepare("last", "ann", 1), api.OK)
	wantRefused(t, other, finish("more", "carl", api.ErrNone), api.ErrState)
	wantWhy(t, other, finish("last", "ann", api.OK), api.OK)
	wantRefused(t, other, prepare("more", "ann", 1), api.ErrRetry)
}

// P13.2, P13.7: what Decide does: with OK, with an error, with ErrRetry.
func TestDecide(t *testing.T) {
	for _, why := range []api.Errno{api.OK, api.ErrNone, api.ErrOver, api.ErrRetry, api.ErrState, -7, math.MaxInt} {
		s := with(t, 2, open("ann", "o"), deposit("ann", 5, "d"))
		o := transfer("ann", "dora", 2, "k")
		id := "ann/k/1.1"
		wantRefused(t, s, decide(id, why), api.ErrState)
		wantWait(t, s, o)
		wantRefused(t, s, decide("", why), api.ErrState)
		wantRefused(t, s, decide("ann/k/1.2", why), api.ErrState)
		wantRefused(t, s, end(id), api.ErrState)
		want(t, s, decide(id, why), Result{Reply: api.Reply{Why: why}})
		wantTxns(t, s, Txn{Id: id, From: "ann", Key: "k", To: "dora", N: 2, Done: true, Why: why})
		has := int64(5)
		if why == api.OK {
			has = 3
		}
		want(t, s, op(balance("ann")), Result{Reply: api.Reply{Amount: has}})
		if s.Busy() != 0 {
			t.Errorf("Busy %d", s.Busy())
		}
		for _, again := range []api.Errno{api.OK, api.ErrNone, api.ErrRetry} {
			wantRefused(t, s, decide(id, again), api.ErrState)
		}
		// Of one that is decided with ErrRetry nothing is kept; it begins again once that one is ended.
		wantOpStill(t, s, o, why)
		if why != api.ErrRetry {
			wantOpStill(t, s, transfer("ann", "dora", 3, "k"), api.ErrKey)
			wantOpStill(t, s, transfer("ann", "gil", 2, "k"), api.ErrKey)
			wantOpStill(t, s, deposit("ann", 2, "k"), api.ErrKey)
		}
		wantOp(t, s, deposit("ann", 1, "e"), api.OK)
		wantWhy(t, s, end(id), api.OK)
		wantRefused(t, s, end(id), api.ErrState)
		wantTxns(t, s)
		if why == api.ErrRetry {
			wantWait(t, s, o)
			wantTxns(t, s, Txn{Id: "ann/k/1.2", From: "ann", Key: "k", To: "dora", N: 2})
		} else {
			wantOpStill(t, s, o, why)
		}
	}
}

// P13.2: transfers are decided and ended in any order, those that are left stand as they began.
func TestEndInAnyOrder(t *testing.T) {
	s := with(t, 2, open("ann", "o"), deposit("ann", 5, "d"), open("bob", "o"), deposit("bob", 5, "d"), open("eve", "o"), deposit("eve", 5, "d"))
	var l []Txn
	for n, name := range []string{"ann", "bob", "eve"} {
		wantWait(t, s, transfer(name, "dora", 1, "k"))
		l = append(l, Txn{Id: fmt.Sprintf("%s/k/1.%d", name, n+1), From: name, Key: "k", To: "dora", N: 1})
	}
	held := s.Pending()
	want(t, s, decide(l[1].Id, api.OK), Result{})
	l[1].Done = true
	wantTxns(t, s, l...)
	wantRefused(t, s, end(l[0].Id), api.ErrState)
	wantWhy(t, s, end(l[1].Id), api.OK)
	wantTxns(t, s, l[0], l[2])
	if l[1].Done = false; !slices.Equal(held, l) {
		t.Errorf("what Pending answered was changed: %v", held)
	}
}

// P13.2, P13.7: what Finish answers, by the first error where several apply.
func TestFinish(t *testing.T) {
	long := strings.Repeat("i", 80)
	s := with(t, 2, open("ann", "o"), open("bob", "o"), deposit("bob", 7, "d"))
	for _, c := range []Cmd{finish("", "ann", 0), finish(long+"i", "ann", 1), finish("x", "", 1), finish("x", "a b", 0), finish("", "", 50)} {
		wantRefused(t, s, c, api.ErrArg)
	}
	wantRefused(t, s, finish("x", "ann", api.OK), api.ErrState)
	wantRefused(t, s, finish("x", "dora", api.OK), api.ErrState)
	wantRefused(t, s, finish("x", "dora", api.ErrRetry), api.ErrState)
	wantWhy(t, s, prepare("x", "ann", 5), api.OK)
	wantWhy(t, s, prepare("x", "bob", 6), api.OK)
	wantRefused(t, s, finish("y", "ann", api.OK), api.ErrState)
	wantWhy(t, s, finish("x", "ann", api.OK), api.OK)
	wantRows(t, s, "ann=5 bob=7")
	wantRefused(t, s, finish("x", "ann", api.OK), api.OK)
	wantRefused(t, s, finish("x", "eve", api.OK), api.OK)
	wantRefused(t, s, finish("x", "dora", api.ErrRetry), api.OK)
	// The id holds another account, too.
	wantWhy(t, s, finish("x", "bob", api.ErrOver), api.OK)
	wantRows(t, s, "ann=5 bob=7")
	if !slices.Equal(s.done, []part{{"x", "ann"}, {"x", "bob"}}) || len(s.prepared) != 0 || s.Busy() != 0 {
		t.Errorf("done %v, prepared %v, Busy %d", s.done, s.prepared, s.Busy())
	}
	// What comes ahead of its Prepare is done, and never prepared.
	wantWhy(t, s, finish(long, "carl", api.ErrRetry), api.OK)
	wantRefused(t, s, prepare(long, "ann", 1), api.ErrState)
	wantRefused(t, s, finish(long, "carl", api.OK), api.OK)
	s.Do(hold(0, 1))
	wantRefused(t, s, finish("z", "ann", api.ErrRetry), api.ErrState)
	wantRefused(t, s, finish("x", "ann", api.ErrRetry), api.OK)
}

// P13.2: a shard that is frozen finishes what was prepared, and decides what has begun.
func TestFrozenTransfers(t *testing.T) {
	s := with(t, 2, open("ann", "o"), deposit("ann", 5, "d"), open("bob", "o"))
	wantWait(t, s, transfer("ann", "dora", 2, "k"))
	wantWhy(t, s, prepare("x", "bob", 1), api.OK)
	wantWhy(t, s, freeze(3), api.ErrRetry)
	if s.Frozen() != 3 || s.Busy() != 3 {
		t.Errorf("Frozen %d, Busy %d", s.Frozen(), s.Busy())
	}
	want(t, s, decide("ann/k/1.1", api.ErrNone), Result{Reply: api.Reply{Why: api.ErrNone}})
	wantRefused(t, s, freeze(3), api.ErrRetry)
	wantWhy(t, s, finish("x", "bob", api.OK), api.OK)
	want(t, s, freeze(3), Result{Reply: api.Reply{Rows: []api.Row{{Name: "ann", Amount: 5}, {Name: "bob", Amount: 1}}}})
	wantWhy(t, s, finish("y", "bob", api.ErrNone), api.OK)
	wantWhy(t, s, end("ann/k/1.1"), api.OK)
	want(t, s, freeze(3), Result{Reply: api.Reply{Rows: []api.Row{{Name: "ann", Amount: 5}, {Name: "bob", Amount: 1}}}})
}
