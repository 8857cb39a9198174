package ledger

import (
	"math"
	"reflect"
	"strings"
	"testing"

	"almoner/api"
	"almoner/history"
)

// The document's ten examples of the whole; P22.3, P22.4, P22.6, P22.7, P22.8.
func TestTenExamples(t *testing.T) {
	l := newLedger(t, 3, 2)
	for n, example := range []func(*testing.T, *Ledger){
		func(t *testing.T, l *Ledger) {
			wantWhy(t, l, openOf("ann", "o"), api.OK)
			wantWhy(t, l, openOf("ann", "o"), api.OK)
			wantWhy(t, l, openOf("ann", "p"), 41)
		},
		func(t *testing.T, l *Ledger) {
			wantWhy(t, l, depositOf("ann", 5, "d"), api.OK)
			wantWhy(t, l, depositOf("ann", 5, "d"), api.OK)
			wantReply(t, l, balanceOf("ann"), api.Reply{Amount: 5})
			wantWhy(t, l, depositOf("ann", 6, "d"), 45)
		},
		func(t *testing.T, l *Ledger) {
			wantWhy(t, l, transferOf("ann", "bob", 2, "t"), 40)
			wantWhy(t, l, openOf("bob", "o"), api.OK)
			wantWhy(t, l, transferOf("ann", "bob", 2, "t"), 40)
			wantWhy(t, l, transferOf("ann", "bob", 2, "u"), api.OK)
		},
		func(t *testing.T, l *Ledger) {
			wantReply(t, l, balanceOf("ann"), api.Reply{Amount: 3})
			wantWhy(t, l, withdrawOf("ann", 4, "w"), 42)
			wantWhy(t, l, transferOf("ann", "ann", 1, "x"), 44)
		},
		func(t *testing.T, l *Ledger) {
			wantReply(t, l, api.Op{Kind: api.Audit}, api.Reply{Rows: []api.Row{{Name: "ann", Amount: 3}, {Name: "bob", Amount: 2}}})
			wantSum(t, l, 5)
		},
		func(t *testing.T, l *Ledger) {
			wantPower(t, l, nil)
			wantWhy(t, l, depositOf("ann", 5, "d"), api.OK)
			wantSum(t, l, 5)
		},
		func(t *testing.T, l *Ledger) {
			l.Step(at(api.EvFail, 0))
			wantWhy(t, l, depositOf("bob", 1, "e"), api.OK)
			if l.Cluster().Up(0) {
				t.Error("the machine 0 works")
			}
		},
		func(t *testing.T, l *Ledger) {
			wantWhy(t, l, api.Op{Kind: api.Move, Slot: 3, Shard: 1}, api.OK)
			wantSum(t, l, 6)
		},
		func(t *testing.T, l *Ledger) {
			n := len(l.Calls())
			other := 3 - l.Cluster().Leader(0) // The machine 0 is dead.
			l.Step(api.Event{Kind: api.EvCall, Node: other, Op: api.Op{Kind: api.Audit}})
			for range 3 {
				l.Step(api.Event{Kind: api.EvRound})
			}
			if c := l.Calls()[n]; len(l.Calls()) != n+1 || !c.Told || !sameReply(c.Reply, api.Reply{Why: 50}) {
				t.Errorf("Calls:%s", show(l.Calls()[n:]))
			}
		},
		func(t *testing.T, l *Ledger) {
			wantRestart(t, l)
			wantQuiet(t, l)
		},
	} {
		example(t, l)
		if t.Failed() {
			t.Fatalf("the example %d", n+1)
		}
	}
}

// The chapter's example.
func TestExample(t *testing.T) {
	l := newLedger(t, 3, 2)
	wantWhy(t, l, openOf("ann", "o"), api.OK)
	wantWhy(t, l, depositOf("ann", 5, "d"), api.OK)
	wantPower(t, l, nil)
	wantWhy(t, l, depositOf("ann", 5, "d"), api.OK)
	wantSum(t, l, 5)
}

// P22.1: what New refuses.
func TestRefused(t *testing.T) {
	for _, x := range [][2]int{
		{0, 1}, {-1, 1}, {6, 1}, {math.MaxInt, 1}, {math.MinInt, 1},
		{1, 0}, {1, -1}, {1, 4}, {1, math.MaxInt}, {1, math.MinInt}, {0, 0}, {6, 4},
	} {
		if l, why := New(x[0], x[1]); l != nil || why != api.ErrArg {
			t.Errorf("New(%v): %v, %d", x, l, why)
		}
	}
}

// P22.1, P22.4: of each number of machines and shards, a ledger begins on a new cluster; how many rounds are enough hangs on these numbers alone.
func TestNew(t *testing.T) {
	if Sectors != 512 {
		t.Errorf("Sectors: %d", Sectors)
	}
	for n := 1; n <= api.MaxNodes; n++ {
		for shards := 1; shards <= api.MaxShards; shards++ {
			l := newLedger(t, n, shards)
			c, bound := l.Cluster(), l.Bound()
			if c.Nodes() != n || c.Calls() != 0 || c.Flight() != 0 || c.Busy() != shards+1 || len(l.Calls()) != 0 {
				t.Errorf("Nodes %d, Calls %d, Flight %d, Busy %d", c.Nodes(), c.Calls(), c.Flight(), c.Busy())
			}
			for i := range n {
				if c.Disk(i).Size() != 512 || !c.Up(i) {
					t.Errorf("the machine %d: %d sectors", i, c.Disk(i).Size())
				}
			}
			if bound < 100 || bound > 10000 {
				t.Errorf("Bound: %d", bound)
			}
			wantWhy(t, l, openOf("ann", "o"), api.OK)
			wantQuiet(t, l)
			l.Step(at(api.EvFail, 0))
			l.Step(at(api.EvCall, 0))
			wantPower(t, l, nil)
			if l.Bound() != bound || newLedger(t, n, shards).Bound() != bound {
				t.Errorf("Bound: %d, and was %d", l.Bound(), bound)
			}
		}
	}
}

// P22.1, P1: of nil, and of one that nobody made.
func TestNil(t *testing.T) {
	for _, l := range []*Ledger{nil, {}} {
		if r := l.Do(openOf("ann", "o")); !sameReply(r, api.Reply{Why: api.ErrNil}) {
			t.Errorf("Do: %+v", r)
		}
		for kind := -1; kind <= 11; kind++ {
			if n := l.Step(at(kind, 0)); n != 0 {
				t.Errorf("Step: %d", n)
			}
		}
		if n, why := l.Sum(); n != 0 || why != api.ErrNil {
			t.Errorf("Sum: %d, %d", n, why)
		}
		if n, is := l.Quiet(); n != 0 || is || l.Bound() != 0 {
			t.Errorf("Quiet: %d, %v; Bound %d", n, is, l.Bound())
		}
		if a, b := l.Power([][]int{{1}}), l.Restart(); a != api.ErrNil || b != api.ErrNil {
			t.Errorf("Power: %d; Restart: %d", a, b)
		}
		if len(l.Calls()) != 0 || l.Cluster() != nil {
			t.Error("something is there of nil")
		}
	}
}

// P22.3, P5: wrong operations are answered with what is wrong of them, and change nothing.
func TestWrongOperations(t *testing.T) {
	l := newLedger(t, 3, 2)
	wantWhy(t, l, openOf("ann", "o"), api.OK)
	for _, x := range []struct {
		o   api.Op
		why api.Errno
	}{
		{api.Op{}, api.ErrArg},
		{api.Op{Kind: 8, From: "ann", Key: "k"}, api.ErrArg},
		{api.Op{Kind: math.MinInt}, api.ErrArg},
		{openOf("", "k"), api.ErrName},
		{openOf("Ann", "k"), api.ErrName},
		{openOf(strings.Repeat("a", 25), "k"), api.ErrName},
		{openOf("ann", ""), api.ErrName},
		{depositOf("ann", 0, "k"), api.ErrAmount},
		{withdrawOf("ann", math.MinInt64, "k"), api.ErrAmount},
		{transferOf("ann", "b b", 1, "k"), api.ErrName},
		{transferOf("ann", "ann", 1, "k"), api.ErrSelf},
		{balanceOf("\x00"), api.ErrName},
		{api.Op{Kind: api.Move, Slot: 16, Shard: 1}, api.ErrArg},
		{api.Op{Kind: api.Move, Slot: 0, Shard: 0}, api.ErrArg},
		{api.Op{Kind: api.Move, Slot: 0, Shard: 4}, api.ErrArg},
		{openOf("ann", "k"), api.ErrTwice}, // the key k is free
	} {
		wantWhy(t, l, x.o, x.why)
	}
	wantReply(t, l, api.Op{Kind: api.Audit}, api.Reply{Rows: []api.Row{{Name: "ann"}}})
	wantWhy(t, l, api.Op{Kind: api.Move, Slot: 0, Shard: 3}, api.OK) // as one after another: there any shard can be
}

// P22.3: where no majority can be reached, a Do asks all machines, by turns, for as many rounds as are enough, and answers ErrRetry; so does Sum. Behind a Restart it is answered.
func TestNobodyAnswers(t *testing.T) {
	l := newLedger(t, 3, 1)
	wantWhy(t, l, openOf("ann", "o"), api.OK)
	for i := range 2 {
		l.Step(api.Event{Kind: api.EvFull, Node: i, N: 1})
	}
	before := len(l.Calls())
	wantWhy(t, l, depositOf("ann", 5, "d"), api.ErrRetry)
	calls := l.Calls()[before:]
	if len(calls) != l.Bound() {
		t.Errorf("%d calls; want %d", len(calls), l.Bound())
	}
	for n, c := range calls {
		// Behind some rounds the machines 0 and 1 are dead: what they are asked is told nothing.
		if works := n%3 == 2; c.Op != depositOf("ann", 5, "d") || works != c.Told && n > 60 || c.Told && c.Reply.Why != api.ErrRetry {
			t.Fatalf("the call %d: %+v", n, c)
		}
	}
	if n, why := l.Sum(); n != 0 || why != api.ErrRetry {
		t.Errorf("Sum: %d, %d", n, why)
	}
	if n, is := l.Quiet(); n != l.Bound() || is {
		t.Errorf("Quiet: %d, %v", n, is)
	}
	wantRestart(t, l)
	wantWhy(t, l, depositOf("ann", 5, "d"), api.OK)
	wantSum(t, l, 5)
	if n, is := l.Quiet(); !is {
		t.Errorf("Quiet: %d, %v", n, is)
	}
	if n, is := l.Quiet(); n != 0 || !is {
		t.Errorf("Quiet: %d, %v; want 0, true", n, is)
	}
}

// P22.3: an operation that can not be packed goes to nobody.
func TestTooLong(t *testing.T) {
	l := newLedger(t, 1, 1)
	wantWhy(t, l, openOf("ann", "o"), api.OK)
	before := len(l.Calls())
	o := balanceOf("ann")
	o.To = strings.Repeat("x", api.MaxBytes+1)
	wantWhy(t, l, o, api.ErrRetry)
	if n := len(l.Calls()) - before; n != l.Bound() {
		t.Errorf("%d calls", n)
	}
	o.To = o.To[1:]
	wantWhy(t, l, o, api.OK)
}

// P22.3: Sum of more than can be counted.
func TestSumOver(t *testing.T) {
	l := newLedger(t, 2, 2)
	wantSum(t, l, 0)
	for _, name := range []string{"ann", "bob", "cy"} {
		wantWhy(t, l, openOf(name, "o"), api.OK)
	}
	wantWhy(t, l, depositOf("ann", math.MaxInt64-1, "d"), api.OK)
	wantWhy(t, l, depositOf("cy", 1, "d"), api.OK)
	wantSum(t, l, math.MaxInt64)
	wantWhy(t, l, depositOf("bob", 1, "d"), api.OK)
	if n, why := l.Sum(); n != 0 || why != api.ErrOver {
		t.Errorf("Sum: %d, %d; want 0, %d", n, why, api.ErrOver)
	}
	wantWhy(t, l, depositOf("ann", 2, "e"), api.ErrOver)
	wantWhy(t, l, transferOf("bob", "ann", 1, "t"), api.OK)
	wantWhy(t, l, transferOf("cy", "ann", 1, "t"), api.ErrOver)
	wantWhy(t, l, withdrawOf("ann", 1, "w"), api.OK)
	wantSum(t, l, math.MaxInt64)
}

// P22.2: what begins and is told in steps is in the record, and what is done with the cluster itself is not.
func TestStep(t *testing.T) {
	l := newLedger(t, 1, 1)
	step := func(e api.Event, want int) {
		t.Helper()
		if got := l.Step(e); got != want {
			t.Errorf("Step(%+v): %d; want %d", e, got, want)
		}
	}
	call := func(o api.Op) api.Event { return api.Event{Kind: api.EvCall, Op: o} }
	round := api.Event{Kind: api.EvRound}
	for range 12 {
		step(round, 0)
	}
	for _, i := range oddNumbers() {
		step(api.Event{Kind: api.EvCall, Node: i, Op: openOf("bob", "o")}, 0)
	}
	step(call(openOf("ann", "o")), 0)
	l.Cluster().Do(call(depositOf("ann", 5, "d")))
	step(call(balanceOf("ann")), 0)
	step(round, 3) // the second answer is to a call that no step began
	step(call(balanceOf("ann")), 0)
	for range 2 {
		l.Cluster().Do(round) // the answer is told, but in no step
	}
	step(round, 0)
	want := []history.Call{
		{Op: openOf("ann", "o"), Begin: 1, End: 3, Told: true},
		{Op: balanceOf("ann"), Begin: 2, End: 4, Told: true, Reply: api.Reply{Amount: 5}},
		{Op: balanceOf("ann"), Begin: 5},
	}
	if got := l.Calls(); !reflect.DeepEqual(got, want) {
		t.Errorf("Calls:%s\nwant%s", show(got), show(want))
	}
	wantPower(t, l, nil)
	wantReply(t, l, balanceOf("ann"), api.Reply{Amount: 5})
	if got := l.Calls(); !reflect.DeepEqual(got[:3], want) {
		t.Errorf("Calls:%s\nwant%s", show(got), show(want))
	}
}

// P22.5: of a call that was told ErrRetry nothing is done, also where it is on its way once more.
func TestDoubledCall(t *testing.T) {
	l := newLedger(t, 1, 1)
	l.Step(api.Event{Kind: api.EvCall, Op: openOf("ann", "o")})
	l.Step(api.Event{Kind: api.EvDouble})
	l.Step(api.Event{Kind: api.EvDeliver}) // nobody leads yet
	l.Step(api.Event{Kind: api.EvDeliver, N: 1})
	for range 12 {
		l.Step(at(api.EvTick, 0))
	}
	l.Step(api.Event{Kind: api.EvDeliver})
	wantWhy(t, l, balanceOf("ann"), api.ErrNone)
	if is, why := history.Linear(l.Calls()); !is || why != api.OK || l.Calls()[0].Reply.Why != api.ErrRetry {
		t.Errorf("Linear: %v, %d; calls:%s", is, why, show(l.Calls()))
	}
}

// P22.3: what is told of a Do's own calls counts alone.
func TestOthersAreTold(t *testing.T) {
	l := newLedger(t, 1, 1)
	wantWhy(t, l, openOf("ann", "o"), api.OK)
	l.Step(api.Event{Kind: api.EvCall, Op: depositOf("ann", 5, "d")})
	wantReply(t, l, balanceOf("ann"), api.Reply{Amount: 5})
	l.Cluster().Do(api.Event{Kind: api.EvCall, Op: openOf("ann", "p")})
	wantReply(t, l, balanceOf("ann"), api.Reply{Amount: 5})
	if c := l.Calls(); len(c) < 4 || !c[len(c)-3].Told {
		t.Errorf("Calls:%s", show(c))
	}
}

// Rules 4 and 5: nothing that is handed in, or answered, shares memory with what is kept.
func TestCopies(t *testing.T) {
	l := newLedger(t, 1, 1)
	wantWhy(t, l, openOf("ann", "o"), api.OK)
	r := l.Do(api.Op{Kind: api.Audit})
	r.Rows[0].Name = "spoilt"
	for range 2 {
		audits := 0
		for _, c := range l.Calls() {
			for i := range c.Reply.Rows {
				if audits++; c.Reply.Rows[i].Name != "ann" {
					t.Errorf("Calls: %+v", c)
				}
				c.Reply.Rows[i].Name = "spoilt"
			}
		}
		if audits != 1 {
			t.Errorf("%d rows are told", audits)
		}
		l.Calls()[0].Begin = 9
		if n := l.Calls()[0].Begin; n != 1 {
			t.Errorf("Begin %d", n)
		}
	}
	kept := [][]int{{1, 2, 300}, nil, {7}}
	wantPower(t, l, kept)
	if !reflect.DeepEqual(kept, [][]int{{1, 2, 300}, nil, {7}}) {
		t.Errorf("kept: %v", kept)
	}
}
