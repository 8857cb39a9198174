package ledger

import (
	"bytes"
	"fmt"
	"math"
	"testing"

	"almoner/api"
	"almoner/history"
)

// spoiltLedger is a ledger in which the sync of a machine has failed: it is dead, and its disk has writes that are not safe.
func spoiltLedger(t *testing.T, machine int) *Ledger {
	t.Helper()
	l := newLedger(t, 3, 2)
	wantWhy(t, l, openOf("ann", "o"), api.OK)
	l.Step(at(api.EvFail, machine))
	wantWhy(t, l, depositOf("ann", 5, "d"), api.OK)
	if l.Cluster().Up(machine) || l.Cluster().Disk(machine).Unsynced() == 0 {
		t.Fatalf("the machine %d: Up %v, Unsynced %d", machine, l.Cluster().Up(machine), l.Cluster().Disk(machine).Unsynced())
	}
	return l
}

// P22.4: of each machine's writes that are not safe, Power keeps what stands at its place, and nothing where nothing stands.
func TestPowerKeeps(t *testing.T) {
	for machine := range 3 {
		for _, k := range [][]int{nil, {}, {0}, {-1}, {math.MinInt, 9}, {1}, {100}, {256}, {math.MaxInt}, {7, 256, 3, 256, 256, 256, 256}} {
			for _, kept := range [][][]int{{k, k, k}, {k, k, k, k, {1}, {2}}, make([][]int, 3)} {
				l := spoiltLedger(t, machine)
				if len(kept[machine]) == 0 {
					kept[machine] = k
				}
				d := l.Cluster().Disk(machine)
				d.Crash(k)
				images := l.Cluster().Images()
				images[machine] = d.Image()
				wantPower(t, l, kept)
				for i, image := range l.Cluster().Images() {
					if !bytes.Equal(image, images[i]) {
						t.Fatalf("machine %d, kept %v: the disk %d is another one", machine, kept, i)
					}
				}
			}
		}
		l := spoiltLedger(t, machine)
		images := l.Cluster().Images()
		short := [][]int{{256}, {256}, {256}}[:machine]
		wantPower(t, l, short)
		if !bytes.Equal(l.Cluster().Images()[machine], images[machine]) {
			t.Fatalf("kept %v: something of the machine %d is kept", short, machine)
		}
	}
}

// P22.4: behind a Power nothing is on its way, the cluster is a new one, and the record stays; what was not told is never told.
func TestPowerForgets(t *testing.T) {
	l := newLedger(t, 3, 2)
	wantWhy(t, l, openOf("ann", "o"), api.OK)
	for i := range 3 {
		l.Step(api.Event{Kind: api.EvCall, Node: i, Op: depositOf("ann", 5, "d")})
	}
	for l.Cluster().Flight() > 3 {
		l.Step(api.Event{Kind: api.EvDeliver})
	}
	calls, was := l.Calls(), l.Cluster()
	wantPower(t, l, nil)
	if c := l.Cluster(); c == was || c.Flight() != 0 || c.Calls() != 0 || c.Nodes() != 3 {
		t.Errorf("Flight %d, Calls %d", c.Flight(), c.Calls())
	}
	if got := l.Calls(); show(got) != show(calls) {
		t.Errorf("Calls:%s\nwant%s", show(got), show(calls))
	}
	wantWhy(t, l, openOf("bob", "o"), api.OK)
	for range 40 {
		l.Step(api.Event{Kind: api.EvRound})
	}
	for n, c := range l.Calls()[:len(calls)] {
		if c.Told != calls[n].Told || c.Op != calls[n].Op {
			t.Errorf("the call %d: %+v; was %+v", n, c, calls[n])
		}
	}
	before := l.Calls()
	if last, behind := calls[len(calls)-1], before[len(calls)]; behind.Begin <= last.Begin || behind.Begin <= last.End {
		t.Errorf("the time goes on with %+v behind %+v", behind, last)
	}
}

// P22.4: Restart keeps all that was written, also where a sync has failed; no disk is full, and all work.
func TestRestart(t *testing.T) {
	for machine := range 3 {
		l := spoiltLedger(t, machine)
		l.Step(api.Event{Kind: api.EvFull, Node: (machine + 1) % 3, N: 1})
		d := l.Cluster().Disk(machine)
		var all []int
		for range d.Unsynced() {
			all = append(all, 256)
		}
		d.Crash(all)
		images := l.Cluster().Images()
		images[machine] = d.Image()
		calls := l.Calls()
		wantRestart(t, l)
		for i, image := range l.Cluster().Images() {
			if !bytes.Equal(image, images[i]) {
				t.Errorf("the disk %d is another one", i)
			}
		}
		if show(l.Calls()) != show(calls) {
			t.Error("the record is another one")
		}
		wantWhy(t, l, openOf("bob", "o"), api.OK)
		wantQuiet(t, l)
		for i := range 3 {
			if !l.Cluster().Up(i) {
				t.Errorf("the machine %d does not work: its disk is full, or a sync has failed", i)
			}
		}
		wantSum(t, l, 5)
	}
}

// P22.2, P22.4: a call that no step begins is in no record, also where one of the same number was not told ahead of a Power.
func TestPowerForgetsNumbers(t *testing.T) {
	l := newLedger(t, 1, 1)
	call := api.Event{Kind: api.EvCall, Op: balanceOf("ann")}
	l.Step(call)
	l.Step(api.Event{Kind: api.EvDrop})
	wantPower(t, l, nil)
	l.Cluster().Do(call)
	if n := l.Step(api.Event{Kind: api.EvRound}); n != 1 {
		t.Errorf("%d answers", n)
	}
	if c := l.Calls(); len(c) != 1 || c[0].Told {
		t.Errorf("Calls:%s", show(c))
	}
}

// P22.4: Restart keeps each write to its last byte.
func TestRestartKeepsAll(t *testing.T) {
	l := newLedger(t, 3, 1)
	wantWhy(t, l, openOf("ann", "o"), api.OK)
	wantQuiet(t, l)
	leader := l.Cluster().Leader(1)
	other := (leader + 1) % 3
	for k := range 10 {
		l.Step(api.Event{Kind: api.EvCall, Node: leader, Op: depositOf("ann", 1, fmt.Sprint("a_key_of_many_letters_", k))})
	}
	for range 10 {
		l.Step(api.Event{Kind: api.EvDeliver})
	}
	for l.Cluster().Flight() > 2 {
		l.Step(api.Event{Kind: api.EvDrop}) // what is left has all ten
	}
	l.Step(at(api.EvFail, other))
	l.Step(api.Event{Kind: api.EvDeliver})
	l.Step(api.Event{Kind: api.EvDeliver})
	d := l.Cluster().Disk(other)
	most := d.Copy()
	most.Crash([]int{255, 255, 255, 255, 255, 255, 255, 255, 255})
	d.Crash([]int{256, 256, 256, 256, 256, 256, 256, 256, 256})
	if l.Cluster().Up(other) || bytes.Equal(d.Image(), most.Image()) {
		t.Fatalf("Up %v, or no write has a last byte", l.Cluster().Up(other))
	}
	wantRestart(t, l)
	if !bytes.Equal(l.Cluster().Images()[other], d.Image()) {
		t.Error("not all is kept")
	}
	wantQuiet(t, l)
}

// P22.4: a Restart lets what is on its way arrive, and an answer be told.
func TestRestartForgetsNothing(t *testing.T) {
	l := newLedger(t, 1, 1)
	wantWhy(t, l, openOf("ann", "o"), api.OK)
	wantQuiet(t, l)
	l.Step(api.Event{Kind: api.EvCall, Op: balanceOf("ann")})
	l.Step(api.Event{Kind: api.EvDeliver})
	n := len(l.Calls()) - 1
	was := l.Cluster()
	wantRestart(t, l)
	if l.Cluster() != was || l.Cluster().Flight() != 1 {
		t.Errorf("Flight %d", l.Cluster().Flight())
	}
	l.Step(api.Event{Kind: api.EvRound})
	if c := l.Calls()[n]; !c.Told || c.Reply.Why != api.OK {
		t.Errorf("the call %d: %+v", n, c)
	}
}

// filled is a ledger of one machine, in the record of which there is no room for one call more, and in the cluster's desk there is: at was so many.
func filled(t *testing.T, at int) *Ledger {
	t.Helper()
	l := newLedger(t, 1, 1)
	wantWhy(t, l, openOf("ann", "o"), api.OK)
	for len(l.Calls()) < at {
		l.Step(api.Event{Kind: api.EvCall, Node: 0, Op: balanceOf("ann")})
		l.Step(api.Event{Kind: api.EvDeliver})
	}
	wantPower(t, l, nil)
	for range 20 {
		l.Step(api.Event{Kind: api.EvRound})
	}
	for len(l.Calls()) < api.MaxScript {
		l.Step(api.Event{Kind: api.EvCall, Node: 0, Op: balanceOf("ann")})
	}
	return l
}

// P22.2, P22.5: where the record has no room for a call that begins, all that is told from then on stays out, so that what is there is in order; operations are answered.
func TestRecordIsFull(t *testing.T) {
	l := filled(t, api.MaxScript-3)
	wantReply(t, l, balanceOf("ann"), api.Reply{})
	wantWhy(t, l, depositOf("ann", 5, "d"), api.OK)
	wantReply(t, l, balanceOf("ann"), api.Reply{Amount: 5})
	calls := l.Calls()
	if len(calls) != api.MaxScript {
		t.Errorf("%d calls", len(calls))
	}
	for _, c := range calls[api.MaxScript-3:] {
		if c.Told {
			t.Errorf("%+v", c)
		}
	}
	// What is told ahead of that is there.
	l = filled(t, api.MaxScript-3)
	if n := l.Step(api.Event{Kind: api.EvRound}); n != 3 {
		t.Errorf("%d answers", n)
	}
	for _, c := range l.Calls()[api.MaxScript-3:] {
		if !c.Told {
			t.Errorf("%+v", c)
		}
	}
}

// P22.2, P22.3: where the cluster has no room for a call, none begins, and nobody answers.
func TestDeskIsFull(t *testing.T) {
	l := newLedger(t, 1, 1)
	for range api.MaxScript + 7 {
		l.Step(api.Event{Kind: api.EvCall, Node: 0, Op: balanceOf("ann")})
	}
	var want []history.Call
	for n := range api.MaxScript {
		want = append(want, history.Call{Op: balanceOf("ann"), Begin: n + 1})
	}
	if show(l.Calls()) != show(want) {
		t.Errorf("%d calls", len(l.Calls()))
	}
	wantWhy(t, l, openOf("ann", "o"), api.ErrRetry)
	if len(l.Calls()) != api.MaxScript {
		t.Errorf("%d calls", len(l.Calls()))
	}
	wantPower(t, l, nil)
	wantWhy(t, l, openOf("ann", "o"), api.OK)
}
