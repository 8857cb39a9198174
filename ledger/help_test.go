package ledger

import (
	"fmt"
	"math"
	"reflect"
	"testing"

	"almoner/api"
	"almoner/history"
)

func newLedger(t *testing.T, n, shards int) *Ledger {
	t.Helper()
	l, why := New(n, shards)
	if l == nil || why != api.OK {
		t.Fatalf("New(%d, %d): %v, %d", n, shards, l, why)
	}
	return l
}

func openOf(name, key string) api.Op {
	return api.Op{Kind: api.Open, From: name, Key: key}
}

func depositOf(name string, amount int64, key string) api.Op {
	return api.Op{Kind: api.Deposit, From: name, Amount: amount, Key: key}
}

func withdrawOf(name string, amount int64, key string) api.Op {
	return api.Op{Kind: api.Withdraw, From: name, Amount: amount, Key: key}
}

func transferOf(from, to string, amount int64, key string) api.Op {
	return api.Op{Kind: api.Transfer, From: from, To: to, Amount: amount, Key: key}
}

func balanceOf(name string) api.Op {
	return api.Op{Kind: api.Balance, From: name}
}

// at is a step of a kind at a machine.
func at(kind, machine int) api.Event {
	return api.Event{Kind: kind, Node: machine}
}

// wantWhy asks for an operation, the answer to which has an error, or OK, and nothing else.
func wantWhy(t *testing.T, l *Ledger, o api.Op, why api.Errno) {
	t.Helper()
	wantReply(t, l, o, api.Reply{Why: why})
}

func wantReply(t *testing.T, l *Ledger, o api.Op, want api.Reply) {
	t.Helper()
	if got := l.Do(o); !sameReply(got, want) {
		t.Errorf("Do(%+v): %+v; want %+v", o, got, want)
	}
}

func wantSum(t *testing.T, l *Ledger, want int64) {
	t.Helper()
	if got, why := l.Sum(); got != want || why != api.OK {
		t.Errorf("Sum: %d, %d; want %d", got, why, want)
	}
}

// wantQuiet asks that all comes to rest within fewer rounds than are enough.
func wantQuiet(t *testing.T, l *Ledger) {
	t.Helper()
	if n, is := l.Quiet(); !is || n >= l.Bound() || l.Cluster().Busy() != 0 {
		t.Errorf("Quiet: %d, %v, Bound %d, Busy %d", n, is, l.Bound(), l.Cluster().Busy())
	}
}

// wantRestart lets all machines start again, and asks that they work.
func wantRestart(t *testing.T, l *Ledger) {
	t.Helper()
	if why := l.Restart(); why != api.OK {
		t.Errorf("Restart: %d", why)
	}
	for i := range l.Cluster().Nodes() {
		if !l.Cluster().Up(i) {
			t.Errorf("the machine %d does not work", i)
		}
	}
}

func wantPower(t *testing.T, l *Ledger, kept [][]int) {
	t.Helper()
	if why := l.Power(kept); why != api.OK {
		t.Errorf("Power: %d", why)
	}
}

// sameReply holds two answers against each other; no rows are no rows.
func sameReply(a, b api.Reply) bool {
	if len(a.Rows) == 0 && len(b.Rows) == 0 {
		a.Rows, b.Rows = nil, nil
	}
	return reflect.DeepEqual(a, b)
}

// counts tells whether a call plays a part in an order.
func counts(c history.Call) bool {
	return !c.Told || c.Reply.Why != api.ErrRetry
}

// counting answers the calls that play a part.
func counting(l []history.Call) []history.Call {
	var of []history.Call
	for _, c := range l {
		if counts(c) {
			of = append(of, c)
		}
	}
	return of
}

// oddNumbers are numbers that no machine, slot or shard has.
func oddNumbers() []int {
	return []int{math.MinInt, -1, api.MaxNodes, 99, math.MaxInt}
}

// show tells calls, one a line.
func show(l []history.Call) string {
	text := ""
	for n, c := range l {
		text += fmt.Sprintf("\n%d: %+v", n, c)
	}
	return text
}
