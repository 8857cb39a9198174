package auditor

import (
	"fmt"
	"math"
	"slices"
	"testing"

	"almoner/api"
	"almoner/chart"
	"almoner/shard"
	"almoner/txn"
)

// P17.1, P17.2, P17.3: the chapter's example.
func TestExample(t *testing.T) {
	a := New(2)
	wantAsks(t, a, 1, chart.Collect, freeze(1, 1), freeze(2, 1))
	wantNothing(t, a, 1, chart.Collect, freeze(1, 1), told(row("bob", 2), row("eve", 1)))
	wantLeft(t, a, 1)
	wantNoRows(t, a)
	wantStep(t, a, 1, chart.Collect, freeze(2, 1), told(row("ann", 3)), cut(1))
	wantLeft(t, a, 0)
	wantRows(t, a, row("ann", 3), row("bob", 2), row("eve", 1))
	wantAsks(t, a, 1, chart.Thaw, thaw(1, 1), thaw(2, 1))
	wantLeft(t, a, 2)
	wantNothing(t, a, 1, chart.Thaw, thaw(1, 1), shard.Result{})
	wantRows(t, a, row("ann", 3), row("bob", 2), row("eve", 1))
	wantStep(t, a, 1, chart.Thaw, thaw(2, 1), shard.Result{}, thawed(1))
	wantRows(t, a, row("ann", 3), row("bob", 2), row("eve", 1))
	wantAsks(t, a, 0, chart.Idle)
	wantLeft(t, a, 2)
	wantNoRows(t, a)
}

// P17.1, P1: a nil auditor.
func TestNil(t *testing.T) {
	var a *Auditor
	for _, phase := range []int{chart.Idle, chart.Collect, chart.Thaw, 3, -1} {
		wantAsks(t, a, 1, phase)
		wantNothing(t, a, 1, phase, freeze(1, 1), told(row("ann", 1)))
		wantNothing(t, a, 1, phase, thaw(1, 1), shard.Result{})
	}
	wantNoRows(t, a)
	wantLeft(t, a, 0)
}

// P17.1, P17.3, P1: an auditor is of as many shards as it is said, or of one, where that can not be; one that nobody made is of one, too.
func TestNew(t *testing.T) {
	is := map[int]int{1: 1, 2: 2, 3: 3}
	for _, shards := range []int{math.MinInt, -2, -1, 0, 1, 2, 3, 4, 5, 200, math.MaxInt} {
		wantNewOf(t, New(shards), max(1, is[shards]))
	}
	wantNewOf(t, &Auditor{}, 1)
	if New(2) == New(2) {
		t.Error("two auditors are one")
	}
}

// wantNewOf asks that an auditor knows nothing yet, and goes through an audit of so many shards.
func wantNewOf(t *testing.T, a *Auditor, shards int) {
	t.Helper()
	wantLeft(t, a, shards)
	wantNoRows(t, a)
	wantAsks(t, a, 0, chart.Idle)
	wantLeft(t, a, shards)
	for _, group := range []int{0, shards + 1} {
		wantNothing(t, a, 4, chart.Collect, freeze(group, 4), told())
		wantNothing(t, a, 4, chart.Thaw, thaw(group, 4), told())
		wantLeft(t, a, shards)
	}
	for me := 1; me < shards; me++ {
		wantNothing(t, a, 4, chart.Collect, freeze(me, 4), told())
		wantLeft(t, a, shards-me)
		wantNoRows(t, a)
	}
	wantStep(t, a, 4, chart.Collect, freeze(shards, 4), told(), cut(4))
	wantRows(t, a)
}

// P17.1: those that have answered are not asked, in whatever order they have.
func TestAsks(t *testing.T) {
	for _, order := range [][]int{{1, 2, 3}, {1, 3, 2}, {2, 1, 3}, {2, 3, 1}, {3, 1, 2}, {3, 2, 1}} {
		a := New(3)
		for _, c := range []struct {
			phase int
			ask   func(group int, n int64) txn.Ask
		}{{chart.Collect, freeze}, {chart.Thaw, thaw}} {
			want := []txn.Ask{c.ask(1, 9), c.ask(2, 9), c.ask(3, 9)}
			wantAsks(t, a, 9, c.phase, want...)
			for i, me := range order {
				a.Told(9, c.phase, c.ask(me, 9), told())
				want = slices.DeleteFunc(want, func(x txn.Ask) bool { return x.Group == me })
				wantAsks(t, a, 9, c.phase, want...)
				wantLeft(t, a, 2-i)
			}
		}
	}
}

// P17.1, P17.2, P17.3, P1: of another phase nothing is asked, and nothing is learned.
func TestNoPhase(t *testing.T) {
	for _, phase := range []int{chart.Idle, -1, 3, 4, math.MinInt, math.MaxInt} {
		for answered := range 4 {
			a := collecting(t, answered)
			wantAsks(t, a, 7, phase)
			wantLeft(t, a, 3)
			for kind := range 12 {
				wantNothing(t, a, 7, phase, txn.Ask{Group: 1, Cmd: shard.Cmd{Kind: kind, Epoch: 7}}, told(row("ann", 1)))
			}
			wantLeft(t, a, 3)
			wantAsks(t, a, 7, chart.Collect, freeze(1, 7), freeze(2, 7), freeze(3, 7))
		}
	}
}

// P17.1, P17.2, P1: an audit of a number that can not be is asked for as it stands.
func TestAnyNumber(t *testing.T) {
	for _, n := range []int64{math.MinInt64, -1, 0, 1, 1 << 60, math.MaxInt64} {
		a := New(1)
		wantAsks(t, a, n, chart.Collect, freeze(1, n))
		wantStep(t, a, n, chart.Collect, freeze(1, n), told(row("ann", n)), cut(n))
		wantRows(t, a, row("ann", n))
		wantAsks(t, a, n, chart.Thaw, thaw(1, n))
		wantStep(t, a, n, chart.Thaw, thaw(1, n), told(), thawed(n))
	}
}

// P17.1: whoever goes through the asks may leave, and go through them again, as they were when they were asked for.
func TestAsksLeft(t *testing.T) {
	a := collecting(t, 1)
	seq := a.Asks(7, chart.Collect)
	for range seq {
		break
	}
	n := 0
	for x := range seq {
		// What is told while somebody goes through them takes none of them away.
		a.Told(7, chart.Collect, freeze(5-x.Group, 7), told())
		n++
	}
	if n != 2 || a.Left() != 0 {
		t.Errorf("%d asks, Left %d", n, a.Left())
	}
	a.Told(8, chart.Thaw, thaw(1, 8), told())
	for range 2 {
		if got := slices.Collect(seq); !slices.EqualFunc(got, []txn.Ask{freeze(2, 7), freeze(3, 7)}, sameAsk) {
			t.Errorf("Asks: %+v", got)
		}
	}
	// To go through elder asks is not to ask for them: nothing is forgotten.
	wantLeft(t, a, 2)
	wantAsks(t, a, 8, chart.Thaw, thaw(2, 8), thaw(3, 8))
}

// forgetting is the ways to make an auditor know another audit, or another phase: it is asked, even if nobody goes through the asks, or told, even if that is nothing.
var forgetting = []func(a *Auditor, n int64, phase int){
	func(a *Auditor, n int64, phase int) { a.Asks(n, phase) },
	func(a *Auditor, n int64, phase int) { a.Told(n, phase, txn.Ask{}, shard.Result{}) },
	func(a *Auditor, n int64, phase int) { a.Told(n, phase, freeze(1, n), shard.Result{Why: api.ErrRetry}) },
	func(a *Auditor, n int64, phase int) { a.Told(n, phase, thaw(1, n), shard.Result{Why: api.ErrNil}) },
	func(a *Auditor, n int64, phase int) { a.Told(n, phase, freeze(1, 7), shard.Result{Why: api.ErrState}) },
}

// P17.1, P17.2, P17.3: another number makes it forget all, asked or told, in whatever phase.
func TestForgetsAll(t *testing.T) {
	for _, forget := range forgetting {
		for _, n := range []int64{8, 6, 0, -7, math.MaxInt64} {
			for _, phase := range []int{chart.Collect, chart.Thaw, chart.Idle, 5} {
				a := collecting(t, 3)
				wantRows(t, a, row("n1", 1), row("n2", 2), row("n3", 3))
				forget(a, n, phase)
				wantLeft(t, a, 3)
				wantNoRows(t, a)
				// What was forgotten is forgotten, when the first audit is asked for again.
				wantAsks(t, a, 7, chart.Collect, freeze(1, 7), freeze(2, 7), freeze(3, 7))
				wantNoRows(t, a)
				wantNothing(t, a, 7, chart.Collect, freeze(2, 7), told(row("n2", 5)))
				wantNothing(t, a, 7, chart.Collect, freeze(3, 7), told(row("n3", 5)))
				wantNoRows(t, a)
				wantStep(t, a, 7, chart.Collect, freeze(1, 7), told(), cut(7))
				wantRows(t, a, row("n2", 5), row("n3", 5))
			}
		}
	}
}

// P17.1, P17.2, P17.3: another phase of the same audit makes it forget who has answered; the rows stay behind a Collect in which all have, but not where Collect begins again, as nobody has answered in it yet.
func TestForgetsAnswers(t *testing.T) {
	for _, forget := range forgetting {
		for _, phase := range []int{chart.Thaw, chart.Idle, -1, 5} {
			a := collecting(t, 3)
			forget(a, 7, phase)
			wantLeft(t, a, 3)
			wantRows(t, a, row("n1", 1), row("n2", 2), row("n3", 3))
			forget(a, 7, chart.Thaw)
			wantLeft(t, a, 3)
			wantRows(t, a, row("n1", 1), row("n2", 2), row("n3", 3))
			wantNothing(t, a, 7, chart.Thaw, thaw(1, 7), told())
			wantLeft(t, a, 2)
			forget(a, 7, chart.Collect)
			wantLeft(t, a, 3)
			wantNoRows(t, a)
			wantNothing(t, a, 7, chart.Collect, freeze(1, 7), told(row("n4", 4)))
			wantNoRows(t, a)
			// Not all of them have answered again.
			forget(a, 7, chart.Thaw)
			wantAsks(t, a, 7, chart.Thaw, thaw(1, 7), thaw(2, 7), thaw(3, 7))
			wantNoRows(t, a)
		}
	}
}

// P17.2, P17.3: whoever answered ahead of another phase has not answered behind it: there are no rows until all have answered again, in whatever order, and then they are what was told last.
func TestForgetsWhoHasAnswered(t *testing.T) {
	for _, forget := range forgetting {
		for _, phase := range []int{chart.Thaw, chart.Idle, -1, 5} {
			for _, order := range [][]int{{1, 2, 3}, {2, 3, 1}, {3, 2, 1}} {
				for answered := range 4 {
					wantAnsweredAgain(t, collecting(t, answered), func(a *Auditor) { forget(a, 7, phase) }, order)
				}
			}
		}
	}
}

// wantAnsweredAgain asks that behind another phase all three shards have to answer in Collect of the audit 7 once more.
func wantAnsweredAgain(t *testing.T, a *Auditor, forget func(a *Auditor), order []int) {
	t.Helper()
	forget(a)
	for i, me := range order[:2] {
		wantNothing(t, a, 7, chart.Collect, freeze(me, 7), told(row(fmt.Sprint("m", me), 9)))
		wantLeft(t, a, 2-i)
		wantNoRows(t, a)
	}
	wantStep(t, a, 7, chart.Collect, freeze(order[2], 7), told(row(fmt.Sprint("m", order[2]), 9)), cut(7))
	for _, phase := range []int{chart.Collect, chart.Thaw} {
		a.Asks(7, phase)
		wantRows(t, a, row("m1", 9), row("m2", 9), row("m3", 9))
	}
}

// P17.1, P17.2: the same audit and phase make it forget nothing.
func TestKeeps(t *testing.T) {
	for _, same := range forgetting {
		a := collecting(t, 2)
		same(a, 7, chart.Collect)
		wantLeft(t, a, 1)
		wantStep(t, a, 7, chart.Collect, freeze(3, 7), told(), cut(7))
		same(a, 7, chart.Collect)
		wantLeft(t, a, 0)
		wantAsks(t, a, 7, chart.Collect)
		wantRows(t, a, row("n1", 1), row("n2", 2))
	}
}

// P17.3: in Thaw there are rows only if all shards have told theirs in Collect.
func TestThawWithoutRows(t *testing.T) {
	for answered := range 3 {
		a := collecting(t, answered)
		wantNoRows(t, a)
		wantAsks(t, a, 7, chart.Thaw, thaw(1, 7), thaw(2, 7), thaw(3, 7))
		wantNoRows(t, a)
		wantNothing(t, a, 7, chart.Thaw, thaw(1, 7), told(row("ann", 1)))
		wantNothing(t, a, 7, chart.Thaw, thaw(3, 7), told(row("ann", 1)))
		wantStep(t, a, 7, chart.Thaw, thaw(2, 7), told(row("ann", 1)), thawed(7))
		wantLeft(t, a, 0)
		wantNoRows(t, a)
	}
	// What a shard tells in Thaw is none of the rows.
	a := collecting(t, 3)
	wantNothing(t, a, 7, chart.Thaw, thaw(1, 7), told(row("ann", 1)))
	wantRows(t, a, row("n1", 1), row("n2", 2), row("n3", 3))
}

// P17.2, P1: answers to what is not asked of this audit in this phase do nothing.
func TestToldOfAnother(t *testing.T) {
	wrongs := []func(x *txn.Ask){
		func(x *txn.Ask) { x.Group = 0 },
		func(x *txn.Ask) { x.Group = 4 },
		func(x *txn.Ask) { x.Group = -1 },
		func(x *txn.Ask) { x.Group = math.MinInt },
		func(x *txn.Ask) { x.Group = math.MaxInt },
		func(x *txn.Ask) { x.Cmd.Epoch = 6 },
		func(x *txn.Ask) { x.Cmd.Epoch = 8 },
		func(x *txn.Ask) { x.Cmd.Epoch = 0 },
		func(x *txn.Ask) { x.Cmd.Epoch = -7 },
		func(x *txn.Ask) { x.Cmd.Kind = shard.CmdFreeze + shard.CmdThaw - x.Cmd.Kind },
		func(x *txn.Ask) { x.Cmd.Kind = 0 },
		func(x *txn.Ask) { x.Cmd.Kind = shard.CmdOp },
		func(x *txn.Ask) { x.Cmd.Kind = shard.CmdHold },
		func(x *txn.Ask) { x.Cmd.Kind = -x.Cmd.Kind },
		func(x *txn.Ask) { x.Cmd.Kind = math.MaxInt },
	}
	for i, alter := range wrongs {
		for answered := range 3 {
			x := freeze(3, 7)
			alter(&x)
			a := collecting(t, answered)
			wantNothing(t, a, 7, chart.Collect, x, told(row("ann", 1)))
			if a.Left() != 3-answered {
				t.Fatalf("%d: %+v is taken as an answer", i, x)
			}
			wantNoRows(t, a)
		}
		x := thaw(3, 7)
		alter(&x)
		a := collecting(t, 3)
		a.Asks(7, chart.Thaw)
		wantNothing(t, a, 7, chart.Thaw, x, told(row("ann", 1)))
		if a.Left() != 3 {
			t.Fatalf("%d: %+v is taken as an answer", i, x)
		}
		wantRows(t, a, row("n1", 1), row("n2", 2), row("n3", 3))
	}
	// Nor do they do anything where all have answered.
	a := collecting(t, 3)
	wantNothing(t, a, 7, chart.Collect, thaw(1, 7), told())
	wantNothing(t, a, 7, chart.Collect, freeze(1, 6), told())
	wantNothing(t, a, 7, chart.Collect, freeze(4, 7), told())
	wantRows(t, a, row("n1", 1), row("n2", 2), row("n3", 3))
}

// P17.2: what else stands in an ask or in a result plays no part.
func TestToldOfMore(t *testing.T) {
	x := freeze(3, 7)
	x.Cmd.Slot, x.Cmd.Id, x.Cmd.N, x.Cmd.Data = 9, "id", 5, []byte("data")
	r := shard.Result{Wait: true, Reply: api.Reply{Why: api.ErrRetry, Amount: 9, Rows: []api.Row{row("ann", 1)}}, Data: []byte("data")}
	a := collecting(t, 2)
	wantStep(t, a, 7, chart.Collect, x, r, cut(7))
	wantRows(t, a, row("ann", 1), row("n1", 1), row("n2", 2))
}

// P17.2: what is refused is no answer, and takes none away.
func TestToldRefused(t *testing.T) {
	for _, why := range []api.Errno{api.ErrRetry, api.ErrState, api.ErrArg, api.ErrNil, api.ErrSize, -1, math.MaxInt, math.MinInt} {
		r := told(row("ann", 1))
		r.Why = why
		a := collecting(t, 2)
		for me := 1; me <= 3; me++ {
			wantNothing(t, a, 7, chart.Collect, freeze(me, 7), r)
			wantLeft(t, a, 1)
		}
		wantStep(t, a, 7, chart.Collect, freeze(3, 7), told(), cut(7))
		for me := 1; me <= 3; me++ {
			wantNothing(t, a, 7, chart.Collect, freeze(me, 7), r)
			wantNothing(t, a, 7, chart.Collect, thaw(me, 7), r)
			wantLeft(t, a, 0)
		}
		wantRows(t, a, row("n1", 1), row("n2", 2))
		for me := 1; me <= 3; me++ {
			wantNothing(t, a, 7, chart.Thaw, thaw(me, 7), r)
			wantLeft(t, a, 3)
		}
		wantRows(t, a, row("n1", 1), row("n2", 2))
	}
}

// P17.2: an answer that comes twice counts once; the rows are the last ones; what follows follows again, as it may have been lost.
func TestToldTwice(t *testing.T) {
	a := collecting(t, 2)
	wantNothing(t, a, 7, chart.Collect, freeze(1, 7), told(row("ann", 1), row("zoe", 2)))
	wantLeft(t, a, 1)
	wantStep(t, a, 7, chart.Collect, freeze(3, 7), told(), cut(7))
	wantRows(t, a, row("ann", 1), row("n2", 2), row("zoe", 2))
	wantStep(t, a, 7, chart.Collect, freeze(1, 7), told(), cut(7))
	wantRows(t, a, row("n2", 2))
	for range 2 {
		wantNothing(t, a, 7, chart.Thaw, thaw(3, 7), told())
		wantNothing(t, a, 7, chart.Thaw, thaw(2, 7), told())
	}
	for range 2 {
		wantStep(t, a, 7, chart.Thaw, thaw(1, 7), told(), thawed(7))
		wantStep(t, a, 7, chart.Thaw, thaw(3, 7), told(), thawed(7))
	}
	wantRows(t, a, row("n2", 2))
}

// P17.3: the rows of all shards, merged; a name that several have told stands there as often, in the order of the shards.
func TestRows(t *testing.T) {
	a := New(3)
	a.Told(7, chart.Collect, freeze(3, 7), told(row("b", 31), row("d", 32)))
	a.Told(7, chart.Collect, freeze(2, 7), told())
	a.Told(7, chart.Collect, freeze(1, 7), told(row("a", 11), row("b", 12), row("e", 13)))
	wantRows(t, a, row("a", 11), row("b", 12), row("b", 31), row("d", 32), row("e", 13))
	// As many as there can be.
	var lists [3][]api.Row
	var all []api.Row
	for i := range 3 * api.MaxRows {
		r := row(fmt.Sprintf("n%03d", i), int64(i))
		lists[i*7%3] = append(lists[i*7%3], r)
		all = append(all, r)
	}
	for i, l := range lists {
		a.Told(8, chart.Collect, freeze(i+1, 8), told(l...))
	}
	wantRows(t, a, all...)
}

// P17.2, P17.3: rows are shared by nobody.
func TestMemory(t *testing.T) {
	a := New(2)
	rows := []api.Row{row("b", 2), row("c", 3)}
	a.Told(7, chart.Collect, freeze(1, 7), told(rows...))
	rows[0].Amount = 9
	a.Told(7, chart.Collect, freeze(2, 7), shard.Result{Reply: api.Reply{Rows: rows[:0:2]}})
	if rows = rows[:2]; rows[0] != row("b", 9) || rows[1] != row("c", 3) {
		t.Errorf("a list that was handed in was changed: %+v", rows)
	}
	for range 2 {
		got, is := a.Rows()
		if !is || !slices.Equal(got, []api.Row{row("b", 2), row("c", 3)}) {
			t.Fatalf("Rows: %+v, %v", got, is)
		}
		got[0] = row("x", 1)
		_ = append(got[:1], row("y", 1), row("z", 1))
	}
}

// P17.3: rows of several lists, in order.
func TestMerge(t *testing.T) {
	for _, c := range []struct {
		lists [][]api.Row
		want  []api.Row
	}{
		{nil, nil},
		{[][]api.Row{nil}, nil},
		{[][]api.Row{nil, {}, nil}, nil},
		{[][]api.Row{{row("ann", 1)}}, []api.Row{row("ann", 1)}},
		{[][]api.Row{{row("bob", 1)}, {row("ann", 2)}}, []api.Row{row("ann", 2), row("bob", 1)}},
		{[][]api.Row{{row("c", 1), row("a", 2), row("b", 3)}}, []api.Row{row("a", 2), row("b", 3), row("c", 1)}},
		{[][]api.Row{{row("b", 1)}, nil, {row("a", 2), row("c", 3)}, {row("", 4)}, {row("bb", 5)}}, []api.Row{row("", 4), row("a", 2), row("b", 1), row("bb", 5), row("c", 3)}},
		// Those of one name: the first list's first, whatever they have.
		{[][]api.Row{{row("a", 9), row("b", 8), row("a", 7)}, {row("a", 1), row("b", 2)}, {row("a", 5)}}, []api.Row{row("a", 9), row("a", 7), row("a", 1), row("a", 5), row("b", 8), row("b", 2)}},
		// Bytewise: of any bytes, not letter by letter.
		{[][]api.Row{{row("ä", 1), row("\xff", 2), row("z", 3), row("Z", 4), row("_", 5), row("a\x00", 6), row("a", 7), row("0", 8)}},
			[]api.Row{row("0", 8), row("Z", 4), row("_", 5), row("a", 7), row("a\x00", 6), row("z", 3), row("ä", 1), row("\xff", 2)}},
		{[][]api.Row{{row("a", math.MaxInt64)}, {row("a", math.MinInt64)}}, []api.Row{row("a", math.MaxInt64), row("a", math.MinInt64)}},
	} {
		if got := Merge(c.lists...); !slices.Equal(got, c.want) {
			t.Errorf("Merge(%+v): %+v; want %+v", c.lists, got, c.want)
		}
	}
}

// P17.3: many lists, each with many rows of few names: those of one name stay as they stand.
func TestMergeMany(t *testing.T) {
	var lists [][]api.Row
	for i := range 50 {
		var l []api.Row
		for j := range i * 7 % 41 {
			l = append(l, row(fmt.Sprint("n", (i+j*j)%5), int64(1000*i+j)))
		}
		lists = append(lists, l)
	}
	got := Merge(lists...)
	for i := 1; i < len(got); i++ {
		if a, b := got[i-1], got[i]; a.Name > b.Name || a.Name == b.Name && a.Amount >= b.Amount {
			t.Fatalf("%+v stands ahead of %+v", a, b)
		}
	}
	if len(got) != len(slices.Concat(lists...)) {
		t.Errorf("%d rows", len(got))
	}
}

// P17.3: what is merged is new memory, and what is handed in stays as it is.
func TestMergeMemory(t *testing.T) {
	l := []api.Row{row("b", 1), row("a", 2)}
	for _, lists := range [][][]api.Row{{l}, {l[:1], l[1:]}, {l, l}, {nil, l}} {
		got := Merge(lists...)
		for i := range got {
			got[i] = row("x", 9)
		}
		if l[0] != row("b", 1) || l[1] != row("a", 2) {
			t.Fatalf("what was handed in was changed: %+v", l)
		}
	}
	// A list with room behind it is not written behind.
	room := append(make([]api.Row, 0, 9), row("b", 1))
	Merge(room, l)
	if room = room[:9]; room[1] != (api.Row{}) {
		t.Errorf("%+v", room)
	}
}
