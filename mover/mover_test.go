package mover

import (
	"math"
	"slices"
	"testing"

	"almoner/api"
	"almoner/chart"
	"almoner/shard"
	"almoner/txn"
)

// P16.1, P16.2, P16.3: the chapter's example, and how it ends.
func TestExample(t *testing.T) {
	m := New()
	x := chart.Moving{Slot: 3, From: 1, To: 2, Epoch: 1, Phase: chart.Hold, N: 1}
	data := counted(1500)
	a := txn.Ask{Group: 1, Cmd: hold(3, 1)}
	wantAsks(t, m, x, a)
	wantStep(t, m, x, a, shard.Result{Data: data}, step(1, chart.Hold))
	x.Phase = chart.Install
	a = txn.Ask{Group: 2, Cmd: install(3, 1, 0, false, data[:1000])}
	wantAsks(t, m, x, a)
	wantNothing(t, m, x, a, shard.Result{})
	wantHas(t, m, 1500, 1000)
	a = txn.Ask{Group: 2, Cmd: install(3, 1, 1000, true, data[1000:])}
	wantAsks(t, m, x, a)
	wantStep(t, m, x, a, shard.Result{}, step(1, chart.Install))
	wantHas(t, m, 1500, 1500)
	x.Phase = chart.Drop
	a = txn.Ask{Group: 1, Cmd: drop(3, 1)}
	wantAsks(t, m, x, a)
	wantStep(t, m, x, a, shard.Result{}, step(1, chart.Drop))
	wantAsks(t, m, chart.Moving{})
	wantHas(t, m, -1, 0)
}

// P16.1, P1: a nil mover.
func TestNil(t *testing.T) {
	var m *Mover
	for phase := range 4 {
		wantAsks(t, m, moving(phase))
		wantNothing(t, m, moving(phase), txn.Ask{Group: 1, Cmd: hold(3, 4)}, shard.Result{Data: counted(5)})
		wantNothing(t, m, moving(phase), txn.Ask{Group: 1, Cmd: drop(3, 4)}, shard.Result{})
	}
	wantHas(t, m, 0, 0)
}

// P16.1, P16.3: a new mover, and one that nobody made, know no move, and go on with any one, whatever its phase.
func TestNew(t *testing.T) {
	for _, made := range []func() *Mover{New, func() *Mover { return &Mover{} }} {
		m := made()
		wantHas(t, m, -1, 0)
		wantAsks(t, m, chart.Moving{})
		wantAsks(t, m, moving(chart.Hold), txn.Ask{Group: 1, Cmd: hold(3, 4)})
		m = made()
		wantAsks(t, m, moving(chart.Install), txn.Ask{Group: 1, Cmd: hold(3, 4)})
		m = made()
		wantAsks(t, m, moving(chart.Drop), txn.Ask{Group: 1, Cmd: drop(3, 4)})
		wantStep(t, m, moving(chart.Drop), txn.Ask{Group: 1, Cmd: drop(3, 4)}, shard.Result{}, step(9, chart.Drop))
		wantHas(t, m, -1, 0)
	}
	if New() == New() {
		t.Error("two movers are one")
	}
}

// P16.1, P1: phases that there are not; what it has stays, as the number is the same.
func TestAsksOfNoPhase(t *testing.T) {
	m := with(t, counted(1500), 1000)
	for _, phase := range []int{-1, 4, 5, math.MinInt, math.MaxInt} {
		wantAsks(t, m, moving(phase))
		for _, c := range []txn.Ask{{Group: 1, Cmd: hold(3, 4)}, {Group: 2, Cmd: install(3, 4, 1000, true, counted(500))}, {Group: 1, Cmd: drop(3, 4)}} {
			wantNothing(t, m, moving(phase), c, shard.Result{Data: counted(7)})
		}
		wantHas(t, m, 1500, 1000)
	}
}

// P16.1, P1: a move that can not be is asked for as it stands.
func TestAsksOfAnything(t *testing.T) {
	x := chart.Moving{Slot: -1, From: math.MinInt, To: math.MaxInt, Epoch: math.MinInt64, Phase: chart.Hold, N: math.MinInt64}
	m := New()
	a := txn.Ask{Group: math.MinInt, Cmd: hold(-1, math.MinInt64)}
	wantAsks(t, m, x, a)
	wantStep(t, m, x, a, shard.Result{Data: counted(2)}, step(math.MinInt64, chart.Hold))
	x.Phase = chart.Install
	a = txn.Ask{Group: math.MaxInt, Cmd: install(-1, math.MinInt64, 0, true, counted(2))}
	wantAsks(t, m, x, a)
	wantStep(t, m, x, a, shard.Result{}, step(math.MinInt64, chart.Install))
	x.Phase = chart.Drop
	wantAsks(t, m, x, txn.Ask{Group: math.MinInt, Cmd: drop(-1, math.MinInt64)})
}

// P16.1, P16.2, P16.3: bytes go in pieces of 1000, the last one of what is left, however many there are.
func TestPieces(t *testing.T) {
	if Piece != 1000 {
		t.Fatalf("Piece %d", Piece)
	}
	x := moving(chart.Install)
	for _, n := range []int{0, 1, 999, 1000, 1001, 1999, 2000, 2001, 65536, 65537, 200000} {
		data := counted(n)
		m := with(t, data, 0)
		for at := 0; ; at += 1000 {
			end, last := at+1000, false
			if end >= n {
				end, last = n, true
			}
			a := txn.Ask{Group: 2, Cmd: install(3, 4, at, last, data[at:end])}
			wantAsks(t, m, x, a)
			if last {
				wantStep(t, m, x, a, shard.Result{}, step(9, chart.Install))
				break
			}
			wantNothing(t, m, x, a, shard.Result{})
			wantHas(t, m, n, end)
		}
		// All have gone: until the chart knows, it asks for an end without bytes.
		wantHas(t, m, n, n)
		a := txn.Ask{Group: 2, Cmd: install(3, 4, n, true, nil)}
		wantAsks(t, m, x, a)
		wantStep(t, m, x, a, shard.Result{}, step(9, chart.Install))
		wantHas(t, m, n, n)
	}
}

// P16.1: whoever goes through the asks may leave, and go through them again, as they were when they were asked for.
func TestAsksLeft(t *testing.T) {
	m := with(t, counted(1500), 0)
	x := moving(chart.Install)
	seq := m.Asks(x)
	for range seq {
		break
	}
	a := txn.Ask{Group: 2, Cmd: install(3, 4, 0, false, counted(1500)[:1000])}
	m.Told(x, a, shard.Result{})
	for range 2 {
		if got := slices.Collect(seq); !slices.EqualFunc(got, []txn.Ask{a}, sameAsk) {
			t.Errorf("Asks: %+v", got)
		}
	}
	wantHas(t, m, 1500, 1000)
}

// P16.1, P16.2: a move of another number, or none, makes it forget, asked or told, whatever it is told.
func TestForgets(t *testing.T) {
	other := moving(chart.Install)
	other.N = 10
	elder := moving(chart.Hold)
	elder.N = 8
	for _, x := range []chart.Moving{other, elder, {}, {Phase: chart.Drop, Slot: 3, From: 1, To: 2, Epoch: 4}, {N: -9}} {
		m := with(t, counted(1500), 1000)
		m.Asks(x)
		wantHas(t, m, -1, 0)
		m = with(t, counted(1500), 1000)
		wantNothing(t, m, x, txn.Ask{}, shard.Result{Why: api.ErrNil})
		wantHas(t, m, -1, 0)
		// What was forgotten is forgotten, when the first move is asked for again.
		wantAsks(t, m, moving(chart.Install), txn.Ask{Group: 1, Cmd: hold(3, 4)})
	}
	// Even one that has the bytes of a move without a number forgets them, once nothing moves.
	unnumbered := moving(chart.Install)
	unnumbered.N = 0
	for _, forget := range []func(m *Mover){
		func(m *Mover) { m.Asks(chart.Moving{}) },
		func(m *Mover) { m.Told(chart.Moving{}, txn.Ask{}, shard.Result{}) },
	} {
		m := New()
		wantNothing(t, m, unnumbered, txn.Ask{Group: 1, Cmd: hold(3, 4)}, shard.Result{Data: counted(7)})
		wantHas(t, m, 7, 0)
		forget(m)
		wantHas(t, m, -1, 0)
	}
	// It is told the bytes of the other move, and has them.
	m := with(t, counted(1500), 1000)
	wantNothing(t, m, other, txn.Ask{Group: 1, Cmd: hold(3, 4)}, shard.Result{Data: counted(1200)})
	wantHas(t, m, 1200, 0)
	// An answer to the last piece of the elder move does nothing for the other one.
	m = with(t, counted(1500), 1000)
	wantNothing(t, m, other, txn.Ask{Group: 2, Cmd: install(3, 4, 1000, true, counted(500))}, shard.Result{})
	wantNothing(t, m, other, txn.Ask{Group: 2, Cmd: install(3, 4, 0, true, nil)}, shard.Result{})
	wantHas(t, m, -1, 0)
}

// P16.1, P16.2, P16.3: of the phase Idle there is no move: it forgets, asked or told, whatever stands beside that phase.
func TestForgetsOfIdle(t *testing.T) {
	asks := []txn.Ask{{}, {Group: 1, Cmd: hold(3, 4)}, {Group: 2, Cmd: install(3, 4, 1000, true, counted(500))}, {Group: 1, Cmd: drop(3, 4)}, {Group: 1, Cmd: hold(0, 0)}, {Cmd: hold(0, 0)}}
	for _, idle := range []chart.Moving{moving(chart.Idle), {N: 9}, {Slot: 3, N: 9}, {Epoch: 4, N: 9}, {From: 1, To: 2, N: 9}, {N: 8}, {}} {
		for _, has := range []struct{ bytes, gone int }{{1500, 1000}, {1500, 1500}, {7, 0}, {0, 0}} {
			m := with(t, counted(has.bytes), has.gone)
			wantAsks(t, m, idle)
			wantHas(t, m, -1, 0)
			for _, a := range asks {
				m = with(t, counted(has.bytes), has.gone)
				wantNothing(t, m, idle, a, shard.Result{Data: counted(7)})
				wantHas(t, m, -1, 0)
			}
			// What was forgotten is asked for again, and had again.
			wantAsks(t, m, moving(chart.Install), txn.Ask{Group: 1, Cmd: hold(3, 4)})
			wantNothing(t, m, moving(chart.Install), txn.Ask{Group: 1, Cmd: hold(3, 4)}, shard.Result{Data: counted(3)})
			wantHas(t, m, 3, 0)
		}
	}
	// Asked is asked, even if nobody goes through what is asked.
	m := with(t, counted(1500), 1000)
	m.Asks(chart.Moving{N: 9})
	wantHas(t, m, -1, 0)
}

// P16.1, P16.2: a move of the same number is the same one, whatever else is told of it.
func TestKeeps(t *testing.T) {
	m := with(t, counted(1500), 1000)
	for _, phase := range []int{chart.Drop, chart.Hold, chart.Install} {
		m.Asks(moving(phase))
		wantHas(t, m, 1500, 1000)
	}
	x := moving(chart.Install)
	x.Slot, x.To, x.Epoch = 5, 3, 7
	wantAsks(t, m, x, txn.Ask{Group: 3, Cmd: install(5, 7, 1000, true, counted(1500)[1000:])})
}

// P16.2, P1: answers to what is not asked of this move in this phase do nothing.
func TestToldOfAnother(t *testing.T) {
	right := map[int][]txn.Ask{
		chart.Hold:    {{Group: 1, Cmd: hold(3, 4)}},
		chart.Install: {{Group: 1, Cmd: hold(3, 4)}, {Group: 2, Cmd: install(3, 4, 1000, true, counted(500))}},
		chart.Drop:    {{Group: 1, Cmd: drop(3, 4)}},
	}
	var wrong []txn.Ask
	for _, a := range append(right[chart.Install], right[chart.Drop]...) {
		for _, alter := range []func(a *txn.Ask){
			func(a *txn.Ask) { a.Group = 3 - a.Group },
			func(a *txn.Ask) { a.Group = 0 },
			func(a *txn.Ask) { a.Group = -a.Group },
			func(a *txn.Ask) { a.Cmd.Slot = 4 },
			func(a *txn.Ask) { a.Cmd.Slot = -3 },
			func(a *txn.Ask) { a.Cmd.Epoch = 3 },
			func(a *txn.Ask) { a.Cmd.Epoch = 5 },
			func(a *txn.Ask) { a.Cmd.Kind = 0 },
			func(a *txn.Ask) { a.Cmd.Kind = shard.CmdFreeze },
			func(a *txn.Ask) { a.Cmd.Kind = shard.CmdPrepare },
			func(a *txn.Ask) { a.Cmd.Kind = -a.Cmd.Kind },
			func(a *txn.Ask) { a.Cmd.Kind = 11 },
		} {
			b := a
			alter(&b)
			wrong = append(wrong, b)
		}
	}
	for _, phase := range []int{chart.Idle, chart.Hold, chart.Install, chart.Drop, 4} {
		bad := slices.Clone(wrong)
		for other, l := range right {
			if other != phase && !(phase == chart.Install && other == chart.Hold) {
				bad = append(bad, l...)
			}
		}
		if phase == chart.Hold {
			bad = slices.DeleteFunc(bad, func(a txn.Ask) bool { return sameAsk(a, right[chart.Hold][0]) })
		}
		m := with(t, counted(1500), 1000)
		has, at := 1500, 1000
		if phase == chart.Idle {
			has, at = -1, 0
		}
		for _, a := range bad {
			for _, why := range []api.Errno{api.OK, api.ErrState, api.ErrSize, api.ErrRetry} {
				wantNothing(t, m, moving(phase), a, shard.Result{Why: why, Data: counted(3)})
				wantHas(t, m, has, at)
			}
		}
	}
}

// P16.2: a slot that is held back is told once more; what has gone has, as long as there are so many.
func TestToldHold(t *testing.T) {
	a := txn.Ask{Group: 1, Cmd: hold(3, 4)}
	for _, phase := range []int{chart.Hold, chart.Install} {
		told := func(m *Mover, r shard.Result) {
			t.Helper()
			if phase == chart.Hold && r.Why == api.OK {
				wantStep(t, m, moving(phase), a, r, step(9, chart.Hold))
			} else {
				wantNothing(t, m, moving(phase), a, r)
			}
		}
		for _, c := range []struct{ now, at int }{{1500, 1000}, {1000, 1000}, {1001, 1000}, {999, 0}, {0, 0}, {70000, 1000}} {
			m := with(t, counted(1500), 1000)
			told(m, shard.Result{Data: counted(c.now)})
			wantHas(t, m, c.now, c.at)
		}
		m := New()
		for _, why := range []api.Errno{api.ErrRetry, api.ErrState, api.ErrArg, api.ErrNil, api.ErrSize, -1} {
			told(m, shard.Result{Why: why, Data: counted(9)})
			wantHas(t, m, -1, 0)
		}
		told(m, shard.Result{})
		wantHas(t, m, 0, 0)
		told(m, shard.Result{Data: counted(9)})
		wantHas(t, m, 9, 0)
		told(m, shard.Result{Why: api.ErrState})
		wantHas(t, m, 9, 0)
	}
}

// P16.2: what Install's answers do.
func TestToldInstall(t *testing.T) {
	x := moving(chart.Install)
	for _, c := range []struct {
		at, n int
		last  bool
		why   api.Errno
		gone  int
		steps bool
	}{
		{1000, 1000, false, api.OK, 2000, false},
		{1000, 1, false, api.OK, 1001, false},
		{1000, 0, false, api.OK, 1000, false},
		{1000, 1500, false, api.OK, 2500, false},
		{1000, 5000, false, api.OK, 2500, false},
		{1000, 1500, true, api.OK, 2500, true},
		{1000, 10, true, api.OK, 1010, true},
		{1000, 9000, true, api.OK, 2500, true},
		{1000, 1000, false, api.ErrState, 0, false},
		{1000, 1000, true, api.ErrState, 0, false},
		{1000, 1000, false, api.ErrSize, 0, false},
		{1000, 1000, true, api.ErrSize, 0, false},
		{1000, 1000, true, api.ErrForm, 1000, false},
		{1000, 1000, true, api.ErrFull, 1000, false},
		{1000, 1000, true, api.ErrRetry, 1000, false},
		{1000, 1000, true, api.ErrArg, 1000, false},
		{1000, 1000, true, api.ErrNil, 1000, false},
		{1000, 1000, true, -5, 1000, false},
		{0, 1000, true, api.OK, 1000, false},
		{0, 1000, false, api.ErrState, 1000, false},
		{999, 1000, false, api.ErrSize, 1000, false},
		{2000, 500, true, api.OK, 1000, false},
		{-1000, 1000, true, api.OK, 1000, false},
		{math.MaxInt, 1000, true, api.OK, 1000, false},
	} {
		m := with(t, counted(2500), 1000)
		a := txn.Ask{Group: 2, Cmd: install(3, 4, c.at, c.last, make([]byte, c.n))}
		r := shard.Result{Why: c.why, Wait: true, Data: counted(7)}
		if c.steps {
			wantStep(t, m, x, a, r, step(9, chart.Install))
		} else {
			wantNothing(t, m, x, a, r)
		}
		wantHas(t, m, 2500, c.gone)
	}
	// Without the bytes, nothing.
	m := New()
	for _, why := range []api.Errno{api.OK, api.ErrState} {
		wantNothing(t, m, x, txn.Ask{Group: 2, Cmd: install(3, 4, 0, true, nil)}, shard.Result{Why: why})
		wantHas(t, m, -1, 0)
	}
}

// P16.2: what Drop's answers do.
func TestToldDrop(t *testing.T) {
	a := txn.Ask{Group: 1, Cmd: drop(3, 4)}
	for _, m := range []*Mover{New(), with(t, counted(1500), 1000)} {
		has, at := m.Has(), m.At()
		for _, why := range []api.Errno{api.ErrState, api.ErrRetry, api.ErrArg, api.ErrNil, api.ErrSize, -1} {
			wantNothing(t, m, moving(chart.Drop), a, shard.Result{Why: why})
		}
		wantStep(t, m, moving(chart.Drop), a, shard.Result{}, step(9, chart.Drop))
		wantStep(t, m, moving(chart.Drop), a, shard.Result{Wait: true, Data: counted(3)}, step(9, chart.Drop))
		wantHas(t, m, has, at)
	}
}

// P16.1, P16.2: bytes are shared by nobody.
func TestMemory(t *testing.T) {
	x := moving(chart.Install)
	data := counted(1500)
	m := with(t, data, 0)
	clear(data)
	want := txn.Ask{Group: 2, Cmd: install(3, 4, 0, false, counted(1500)[:1000])}
	wantAsks(t, m, x, want)
	seq := m.Asks(x)
	for range 2 {
		for a := range seq {
			if !sameAsk(a, want) {
				t.Fatal("an ask shares memory with the one ahead of it")
			}
			clear(a.Cmd.Data)
			a.Cmd.Data = append(a.Cmd.Data, 1, 2, 3)
		}
	}
	wantAsks(t, m, x, want)
	m.Told(x, want, shard.Result{})
	wantAsks(t, m, x, txn.Ask{Group: 2, Cmd: install(3, 4, 1000, true, counted(1500)[1000:])})
	// Nor is a list changed that is handed in.
	if !slices.Equal(want.Cmd.Data, counted(1500)[:1000]) {
		t.Error("an ask that was handed in was changed")
	}
}
