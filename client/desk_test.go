package client

import (
	"fmt"
	"math"
	"math/rand"
	"slices"
	"testing"

	"almoner/api"
)

// opNumber is an operation that is told from others.
func opNumber(n int) api.Op {
	return api.Op{Kind: api.Deposit, From: fmt.Sprint("n", n), Amount: int64(n), Key: "k"}
}

// replyNumber is an answer that is told from others.
func replyNumber(n int) api.Reply {
	return api.Reply{Why: api.Errno(n % 3), Amount: int64(n), Rows: []api.Row{{Name: fmt.Sprint("r", n), Amount: 1}}}
}

// opened is the numbers of the calls without an answer; each must have its operation.
func opened(t *testing.T, d *Desk, op func(n int) api.Op) []int {
	t.Helper()
	var l []int
	for n, o := range d.Open() {
		if o != op(n) {
			t.Fatalf("Open: %d, %+v; want %+v", n, o, op(n))
		}
		l = append(l, n)
	}
	return l
}

// wantOpen asks that just these calls, by opNumber, have no answer.
func wantOpen(t *testing.T, d *Desk, want ...int) {
	t.Helper()
	if got := opened(t, d, opNumber); !slices.Equal(got, want) {
		t.Fatalf("Open: %v; want %v", got, want)
	}
}

// wantGet asks for a call.
func wantGet(t *testing.T, d *Desk, n int, o api.Op, r api.Reply, is bool) {
	t.Helper()
	if op, reply, has := d.Get(n); op != o || !sameReply(reply, r) || has != is {
		t.Fatalf("Get(%d): %+v, %+v, %v; want %+v, %+v, %v", n, op, reply, has, o, r, is)
	}
}

// deskOf is a desk with so many calls, by opNumber.
func deskOf(t *testing.T, calls int) *Desk {
	t.Helper()
	d := New()
	for n := range calls {
		if got := d.Begin(opNumber(n)); got != n {
			t.Fatalf("Begin: %d; want %d", got, n)
		}
		if d.Len() != n+1 {
			t.Fatalf("Len: %d; want %d", d.Len(), n+1)
		}
	}
	return d
}

// wrongs is numbers of calls that there are not, where there are so many.
func wrongs(calls int) []int {
	return []int{math.MinInt, -2, -1, calls, calls + 1, 2000, math.MaxInt}
}

// P18.2: calls begin, are answered, and are told.
func TestDesk(t *testing.T) {
	d := deskOf(t, 3)
	wantOpen(t, d, 0, 1, 2)
	wantGet(t, d, 1, opNumber(1), api.Reply{}, false)
	if !d.Hear(1, replyNumber(7)) {
		t.Error("Hear(1): false")
	}
	wantOpen(t, d, 0, 2)
	wantGet(t, d, 1, opNumber(1), replyNumber(7), true)
	wantGet(t, d, 0, opNumber(0), api.Reply{}, false)
	// The empty answer is one, too.
	if !d.Hear(0, api.Reply{}) {
		t.Error("Hear(0): false")
	}
	wantGet(t, d, 0, opNumber(0), api.Reply{}, true)
	wantOpen(t, d, 2)
	// ErrRetry is one.
	if !d.Hear(2, api.Reply{Why: api.ErrRetry}) {
		t.Error("Hear(2): false")
	}
	wantOpen(t, d)
	if d.Len() != 3 || d.Begin(opNumber(3)) != 3 {
		t.Errorf("Len: %d", d.Len())
	}
	wantOpen(t, d, 3)
}

// P18.2: a desk without calls, also one that nobody made.
func TestEmptyDesk(t *testing.T) {
	for _, d := range []*Desk{New(), {}} {
		wantOpen(t, d)
		for _, n := range append(wrongs(0), 0) {
			wantGet(t, d, n, api.Op{}, api.Reply{}, false)
			if d.Hear(n, replyNumber(1)) {
				t.Errorf("Hear(%d): true", n)
			}
		}
		if d.Len() != 0 || d.Begin(opNumber(0)) != 0 || d.Len() != 1 {
			t.Error("Len, Begin")
		}
	}
	if New() == New() {
		t.Error("two desks are one")
	}
}

// P18.2, P1: a nil desk.
func TestNilDesk(t *testing.T) {
	var d *Desk
	if n := d.Begin(opNumber(0)); n != -1 {
		t.Errorf("Begin: %d", n)
	}
	for _, n := range append(wrongs(0), 0) {
		if d.Hear(n, replyNumber(1)) {
			t.Errorf("Hear(%d): true", n)
		}
		wantGet(t, d, n, api.Op{}, api.Reply{}, false)
	}
	wantOpen(t, d)
	if d.Len() != 0 {
		t.Errorf("Len: %d", d.Len())
	}
}

// P18.2, P1: numbers of calls that there are not.
func TestNoCall(t *testing.T) {
	d := deskOf(t, 5)
	for _, n := range wrongs(5) {
		if d.Hear(n, replyNumber(1)) {
			t.Errorf("Hear(%d): true", n)
		}
		wantGet(t, d, n, api.Op{}, api.Reply{}, false)
	}
	wantOpen(t, d, 0, 1, 2, 3, 4)
	// A call that begins later has nothing of what was heard ahead of it.
	d.Begin(opNumber(5))
	wantGet(t, d, 5, opNumber(5), api.Reply{}, false)
}

// P18.2: there are 2000 calls at most; one more is not kept.
func TestFullDesk(t *testing.T) {
	d := deskOf(t, api.MaxScript-1)
	if n := d.Begin(opNumber(api.MaxScript - 1)); n != 1999 {
		t.Fatalf("Begin: %d", n)
	}
	for range 3 {
		if n := d.Begin(opNumber(7)); n != -1 || d.Len() != 2000 {
			t.Fatalf("Begin: %d, Len %d", n, d.Len())
		}
		wantGet(t, d, 2000, api.Op{}, api.Reply{}, false)
		if d.Hear(2000, replyNumber(1)) {
			t.Fatal("Hear(2000): true")
		}
	}
	// An answer makes no room.
	for n := range 2000 {
		if !d.Hear(n, replyNumber(n)) {
			t.Fatalf("Hear(%d): false", n)
		}
	}
	if n := d.Begin(opNumber(7)); n != -1 || d.Len() != 2000 {
		t.Fatalf("Begin: %d, Len %d", n, d.Len())
	}
	wantGet(t, d, 1999, opNumber(1999), replyNumber(1999), true)
	wantOpen(t, d)
}

// P18.2: operations of all kinds are kept as they are, wrong ones and the same one twice among them.
func TestAnyOp(t *testing.T) {
	d := New()
	ops := []api.Op{{}, {Kind: -1}, {Kind: api.Audit}, someOp, someOp, {Kind: math.MaxInt, From: "\xff", Amount: math.MinInt64, Slot: -1, Shard: -1}}
	for n, o := range ops {
		if d.Begin(o) != n {
			t.Fatalf("Begin: not %d", n)
		}
		wantGet(t, d, n, o, api.Reply{}, false)
	}
	if l := opened(t, d, func(n int) api.Op { return ops[n] }); len(l) != len(ops) {
		t.Errorf("Open: %v", l)
	}
}

// P18.4: a call has the answer that was heard first; another one, even the same, is not heard.
func TestFirstAnswer(t *testing.T) {
	for _, first := range []api.Reply{{}, {Why: api.ErrRetry}, replyNumber(4)} {
		d := deskOf(t, 2)
		if !d.Hear(0, first) {
			t.Fatal("Hear: false")
		}
		for _, later := range []api.Reply{first, {}, {Why: api.ErrFunds}, replyNumber(5)} {
			if d.Hear(0, later) {
				t.Errorf("Hear of a second answer: true")
			}
			wantGet(t, d, 0, opNumber(0), first, true)
			wantGet(t, d, 1, opNumber(1), api.Reply{}, false)
			wantOpen(t, d, 1)
		}
	}
}

// P18.2: whoever goes through the open calls may leave, and go through them again, as they were when they were asked for.
func TestOpenAsItWas(t *testing.T) {
	d := deskOf(t, 4)
	d.Hear(1, replyNumber(1))
	seq := d.Open()
	d.Hear(2, replyNumber(2))
	d.Begin(opNumber(4))
	for n := range seq {
		if n != 0 {
			t.Fatalf("Open begins with %d", n)
		}
		break
	}
	for range 2 {
		var l []int
		for n, o := range seq {
			if o != opNumber(n) {
				t.Errorf("Open: %d, %+v", n, o)
			}
			l = append(l, n)
			// What happens meanwhile is not seen.
			d.Hear(3, replyNumber(3))
			d.Begin(opNumber(d.Len()))
		}
		if !slices.Equal(l, []int{0, 2, 3}) {
			t.Errorf("Open: %v", l)
		}
	}
	wantOpen(t, d, 0, 4, 5, 6, 7, 8, 9, 10)
}

// P18.2: answers are shared by nobody.
func TestDeskMemory(t *testing.T) {
	d := deskOf(t, 2)
	r := replyNumber(1)
	d.Hear(0, r)
	d.Hear(1, r)
	r.Rows[0].Amount = 9
	wantGet(t, d, 0, opNumber(0), replyNumber(1), true)
	_, got, _ := d.Get(0)
	got.Rows[0] = api.Row{Name: "x"}
	_ = append(got.Rows[:0], api.Row{Name: "y"})
	wantGet(t, d, 0, opNumber(0), replyNumber(1), true)
	wantGet(t, d, 1, opNumber(1), replyNumber(1), true)
}

// P18.2, P18.4: scripts, held against a map of answers by their calls.
func TestDeskScripts(t *testing.T) {
	for seed := range int64(300) {
		r := rand.New(rand.NewSource(seed))
		d, calls, answers := New(), 0, map[int]api.Reply{}
		for i := range 100 {
			n := r.Intn(calls+3) - 1
			switch r.Intn(3) {
			case 0:
				if got := d.Begin(opNumber(calls)); got != calls {
					t.Fatalf("Begin: %d; want %d", got, calls)
				}
				calls++
			case 1:
				_, heard := answers[n]
				want := n >= 0 && n < calls && !heard
				if got := d.Hear(n, replyNumber(i)); got != want {
					t.Fatalf("Hear(%d): %v; want %v", n, got, want)
				}
				if want {
					answers[n] = replyNumber(i)
				}
			}
			if r, heard := answers[n]; n >= 0 && n < calls {
				wantGet(t, d, n, opNumber(n), r, heard)
			}
		}
		var open []int
		for n := range calls {
			if _, heard := answers[n]; !heard {
				open = append(open, n)
			}
		}
		wantOpen(t, d, open...)
		if d.Len() != calls {
			t.Fatalf("Len: %d; want %d", d.Len(), calls)
		}
	}
}
