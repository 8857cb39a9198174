package raft

import (
	"bytes"
	"math"
	"testing"

	"almoner/api"
	"almoner/rlog"
)

// P10.7: the chapter's example.
func TestExample(t *testing.T) {
	r := newRaft(t, 0, 1, 0, -1, logOf(t, ""), 0)
	ticks(t, r, 9)
	wantInfo(t, r, Info{Term: 0, Voted: -1, Role: api.Follower, Leader: -1, Commit: 0})
	ticks(t, r, 1)
	wantInfo(t, r, Info{Term: 1, Voted: 0, Role: api.Leader, Leader: 0, Commit: 1})
	if at, l, why := r.Propose([]byte("a")); at != 2 || len(l) != 0 || why != api.OK {
		t.Errorf("Propose: %d, %s, %d", at, showAll(l), why)
	}
	wantInfo(t, r, Info{Term: 1, Voted: 0, Role: api.Leader, Leader: 0, Commit: 2})
	wantLog(t, r, 0, 0, "1 1a")
}

// P10.7: a replica alone leads behind its timeout, whatever it had, and all that it has and proposes is agreed at once.
func TestAlone(t *testing.T) {
	for draw := range 10 {
		r := newRaft(t, 0, 1, 7, 0, newLog(t, 5, 3, entries("3a 4b")), 6)
		for i := range 3 {
			r.Draw(draw + 10*i)
		}
		ticks(t, r, 10)
		wantInfo(t, r, Info{Term: 8, Voted: 0, Role: api.Leader, Leader: 0, Commit: 8})
		for at := int64(9); at < 40; at++ {
			got, l, why := r.Propose([]byte{byte(at)})
			if got != at || len(l) != 0 || why != api.OK || r.Info().Commit != at {
				t.Fatalf("Propose: %d, %s, %d, and commit %d; want %d", got, showAll(l), why, r.Info().Commit, at)
			}
		}
		ticks(t, r, 50)
	}
}

// P10.1, P10.4, P1: calls of nil, and of a replica that New did not make.
func TestNil(t *testing.T) {
	for _, r := range []*Raft{nil, {}} {
		r.Draw(3)
		for range 3 {
			if l := r.Tick(); len(l) != 0 {
				t.Errorf("Tick: %s", showAll(l))
			}
		}
		for kind := -1; kind < 9; kind++ {
			if l := r.Step(to0(kind, 5)); len(l) != 0 {
				t.Errorf("Step: %s", showAll(l))
			}
		}
		if at, l, why := r.Propose(nil); at != 0 || l != nil || why != api.ErrNil {
			t.Errorf("Propose: %d, %v, %d", at, l, why)
		}
		if r.Log() != nil || r.Snapshot(0, nil) != api.ErrNil {
			t.Error("Log, Snapshot")
		}
		if at, data, is := r.Installed(); at != 0 || data != nil || is {
			t.Errorf("Installed: %d, %v, %v", at, data, is)
		}
	}
	var r *Raft
	wantInfo(t, r, Info{})
	if r.Snapshot(-1, make([]byte, 65537)) != api.ErrNil {
		t.Error("Snapshot")
	}
	if _, _, why := r.Propose(make([]byte, 1901)); why != api.ErrNil {
		t.Error("Propose")
	}
}

// P10.1: what a replica can begin with.
func TestNew(t *testing.T) {
	type args struct {
		group, me, n  int
		term          int64
		voted         int
		base, of, add int64
		commit        int64
	}
	right := args{group: 1, me: 1, n: 3, term: 5, voted: -1, base: 4, of: 2, add: 3, commit: 5}
	try := func(a args) (*Raft, api.Errno) {
		return New(a.group, a.me, a.n, a.term, a.voted, newLog(t, a.base, a.of, many(int(a.add), 4)), a.commit)
	}
	for i, set := range []func(a *args){
		func(a *args) {},
		func(a *args) { a.group = 0 },
		func(a *args) { a.group = 3 },
		func(a *args) { a.me, a.n = 0, 1 },
		func(a *args) { a.me, a.n = 0, 5 },
		func(a *args) { a.me, a.n = 4, 5 },
		func(a *args) { a.term = 4 },
		func(a *args) { a.term = great },
		func(a *args) { a.term, a.add, a.commit = 2, 0, 4 },
		func(a *args) { a.term, a.base, a.of, a.add, a.commit = 0, 0, 0, 0, 0 },
		func(a *args) { a.voted = 0 },
		func(a *args) { a.voted = 2 },
		func(a *args) { a.commit = 4 },
		func(a *args) { a.commit = 7 },
		func(a *args) { a.base, a.commit = great, great+1 },
	} {
		a := right
		set(&a)
		r, why := try(a)
		if r == nil || why != api.OK {
			t.Fatalf("the right one %d: %v, %d", i, r, why)
		}
		wantInfo(t, r, Info{Term: a.term, Voted: a.voted, Role: api.Follower, Leader: -1, Commit: a.commit})
		wantLog(t, r, a.base, a.of, text(many(int(a.add), 4)))
		if at, data, is := r.Installed(); at != 0 || data != nil || is {
			t.Errorf("Installed: %d, %v, %v", at, data, is)
		}
	}
	for i, set := range []func(a *args){
		func(a *args) { a.group = -1 },
		func(a *args) { a.group = 4 },
		func(a *args) { a.group = math.MaxInt },
		func(a *args) { a.me, a.n = 0, 0 },
		func(a *args) { a.n = 6 },
		func(a *args) { a.n = math.MinInt },
		func(a *args) { a.me = -1 },
		func(a *args) { a.me = 3 },
		func(a *args) { a.me = math.MaxInt },
		func(a *args) { a.term = -1 },
		func(a *args) { a.term, a.base, a.of, a.add, a.commit = -1, 0, 0, 0, 0 },
		func(a *args) { a.term = 3 },
		func(a *args) { a.term, a.add, a.commit = 1, 0, 4 },
		func(a *args) { a.term = great + 1 },
		func(a *args) { a.term = math.MaxInt64 },
		func(a *args) { a.voted = -2 },
		func(a *args) { a.voted = 3 },
		func(a *args) { a.commit = 3 },
		func(a *args) { a.commit = 8 },
		func(a *args) { a.commit = -1 },
		func(a *args) { a.commit = math.MaxInt64 },
	} {
		a := right
		set(&a)
		if r, why := try(a); r != nil || why != api.ErrArg {
			t.Errorf("the wrong one %d: %v, %d", i, r, why)
		}
		if r, why := New(a.group, a.me, a.n, a.term, a.voted, nil, a.commit); r != nil || why != api.ErrNil {
			t.Errorf("the wrong one %d, without a log: %v, %d", i, r, why)
		}
	}
	if r, why := New(0, 0, 1, 0, -1, &rlog.Log{}, 0); r == nil || why != api.OK {
		t.Errorf("a log that rlog.New did not make: %v, %d", r, why)
	}
}

// P10.1, P1: the log that is handed in, and the one that is answered, are other ones than the replica's.
func TestLogIsACopy(t *testing.T) {
	g := logOf(t, "1a 1b")
	r := newRaft(t, 0, 1, 1, -1, g, 1)
	g.Append(entries("1x")...)
	out := r.Log()
	out.Cut(1)
	wantLog(t, r, 0, 0, "1a 1b")
	ticks(t, r, 10)
	wantLog(t, r, 0, 0, "1a 1b 2")
	if g.Len() != 3 || out.Len() != 0 {
		t.Errorf("Len: %d, %d", g.Len(), out.Len())
	}
}

// P10.1, P10.2: without a draw a timeout is 10 and twice me; with one it is 10 and its rest.
func TestTimeouts(t *testing.T) {
	for me := range 5 {
		r := newRaft(t, me, 5, 0, -1, logOf(t, ""), 0)
		for range 3 {
			if count, _ := until(t, r); count != 10+2*me {
				t.Errorf("the replica %d waits for %d ticks", me, count)
			}
		}
	}
	r := newRaft(t, 3, 5, 0, -1, logOf(t, ""), 0)
	draws := []int{0, 7, 10, 19, -1, -10, -13, math.MaxInt, math.MinInt}
	for _, n := range draws {
		r.Draw(n)
	}
	// The first one was taken when there were no draws yet; each other one when the election ahead of it began.
	for i, want := range []int{16, 10, 17, 10, 19, 19, 10, 17, 17, 12, 16, 16} {
		if count, _ := until(t, r); count != want {
			t.Errorf("the timeout %d: %d, want %d", i, count, want)
		}
		if i == 10 {
			r.Draw(6)
		}
	}
}

// P10.1: at most 4096 draws wait; one more is nothing, until one is taken.
func TestManyDraws(t *testing.T) {
	r := newRaft(t, 4, 5, 0, -1, logOf(t, ""), 0)
	for range 4096 {
		r.Draw(1)
	}
	r.Draw(2)
	if count, _ := until(t, r); count != 18 {
		t.Fatalf("the first timeout: %d", count)
	}
	r.Draw(3)
	r.Draw(4)
	for i := range 4096 {
		if count, _ := until(t, r); count != 11 {
			t.Fatalf("the timeout %d: %d", i, count)
		}
	}
	for _, want := range []int{13, 18, 18} {
		if count, _ := until(t, r); count != want {
			t.Fatalf("a timeout: %d, want %d", count, want)
		}
	}
}

// P10.2: an election, and the next one of a candidate.
func TestElection(t *testing.T) {
	r := newRaft(t, 1, 4, 6, 3, newLog(t, 4, 2, entries("3a 5b")), 5)
	ticks(t, r, 11)
	wantInfo(t, r, Info{Term: 6, Voted: 3, Role: api.Follower, Leader: -1, Commit: 5})
	for term := int64(7); term < 10; term++ {
		var want []api.Msg
		for _, to := range []int{0, 2, 3} {
			want = append(want, api.Msg{Kind: api.Vote, Group: 2, From: 1, To: to, Term: term, Index: 6, LogTerm: 5})
		}
		wantMsgs(t, r.Tick(), want...)
		wantInfo(t, r, Info{Term: term, Voted: 1, Role: api.Candidate, Leader: -1, Commit: 5})
		wantLog(t, r, 4, 2, "3a 5b")
		ticks(t, r, 11)
	}
	r = newRaft(t, 0, 2, 2, -1, newLog(t, 9, 2, nil), 9)
	ticks(t, r, 9)
	m := from0(api.Vote, 1, 3)
	m.Index, m.LogTerm = 9, 2
	wantMsgs(t, r.Tick(), m)
}

// P10.2: an election ends the time of the leader that was known.
func TestElectionForgetsTheLeader(t *testing.T) {
	r := newRaft(t, 0, 3, 4, -1, logOf(t, ""), 0)
	r.Step(to0(api.Add, 4))
	wantInfo(t, r, Info{Term: 4, Voted: -1, Role: api.Follower, Leader: 1, Commit: 0})
	until(t, r)
	wantInfo(t, r, Info{Term: 5, Voted: 0, Role: api.Candidate, Leader: -1, Commit: 0})
}

// P10.2: at the greatest term no election begins, however many ticks pass.
func TestGreatestTerm(t *testing.T) {
	for _, n := range []int{1, 3} {
		r := newRaft(t, 0, n, great-1, -1, logOf(t, ""), 0)
		if count, _ := until(t, r); count != 10 || r.Info().Term != great {
			t.Errorf("behind %d ticks: %+v", count, r.Info())
		}
		r = newRaft(t, 0, n, great, -1, logOf(t, ""), 0)
		was := state(r)
		ticks(t, r, 100)
		if state(r) != was {
			t.Errorf("%s, and was %s", state(r), was)
		}
	}
}

// P10.4: Propose, its errors in their order, and that a refused one changes nothing.
func TestPropose(t *testing.T) {
	long, longest := make([]byte, 1901), bytes.Repeat([]byte("c"), 1900)
	r := newRaft(t, 0, 3, 0, -1, logOf(t, ""), 0)
	for range 2 {
		was := state(r)
		for _, cmd := range [][]byte{nil, []byte("a"), long} {
			if at, l, why := r.Propose(cmd); at != 0 || l != nil || why != api.ErrState || state(r) != was {
				t.Errorf("Propose of no leader: %d, %s, %d", at, showAll(l), why)
			}
		}
		until(t, r) // a candidate then
	}
	r, _ = newLeader(t, 3, 4, logOf(t, "1a 2b"), 1)
	was := state(r)
	if at, l, why := r.Propose(long); at != 0 || l != nil || why != api.ErrSize || state(r) != was {
		t.Errorf("Propose of too much: %d, %s, %d", at, showAll(l), why)
	}
	at, l, why := r.Propose([]byte("x"))
	if at != 4 || why != api.OK {
		t.Errorf("Propose: %d, %d", at, why)
	}
	add1, add2 := from0(api.Add, 1, 4), from0(api.Add, 2, 4)
	add1.Index, add1.LogTerm, add1.Commit, add1.Entries = 2, 2, 1, entries("4 4x")
	add2.Index, add2.LogTerm, add2.Commit, add2.Entries = 2, 2, 1, entries("4 4x")
	wantMsgs(t, l, add1, add2)
	if at, _, why := r.Propose(longest); at != 5 || why != api.OK {
		t.Errorf("Propose of the longest: %d, %d", at, why)
	}
	if at, _, why := r.Propose(nil); at != 6 || why != api.OK {
		t.Errorf("Propose of nothing: %d, %d", at, why)
	}
	wantLog(t, r, 0, 0, "1a 2b 4 4x 4"+string(longest)+" 4")
	wantInfo(t, r, Info{Term: 4, Voted: 0, Role: api.Leader, Leader: 0, Commit: 1})
}

// P10.4: a log that is full; behind a snapshot there is room again.
func TestProposeToAFullLog(t *testing.T) {
	r, _ := newLeader(t, 1, 2, newLog(t, 0, 0, many(4094, 1)), 0)
	if at, _, why := r.Propose([]byte("x")); at != 4096 || why != api.OK || r.Info().Commit != 4096 {
		t.Errorf("Propose: %d, %d", at, why)
	}
	if at, l, why := r.Propose([]byte("y")); at != 0 || l != nil || why != api.ErrFull {
		t.Errorf("Propose to a full log: %d, %v, %d", at, l, why)
	}
	if _, _, why := r.Propose(make([]byte, 1901)); why != api.ErrSize {
		t.Errorf("Propose of too much to a full log: %d", why)
	}
	if why := r.Snapshot(1, nil); why != api.OK {
		t.Errorf("Snapshot: %d", why)
	}
	if at, _, why := r.Propose([]byte("y")); at != 4097 || why != api.OK || r.Info().Commit != 4097 {
		t.Errorf("Propose: %d, %d", at, why)
	}
}

// P10.4: Snapshot, its errors in their order, and what it does.
func TestSnapshot(t *testing.T) {
	r := newRaft(t, 0, 3, 3, -1, newLog(t, 3, 1, entries("1a 2b 2c 3d")), 5)
	long := make([]byte, 65537)
	was := state(r)
	for _, at := range []int64{math.MinInt64, -1, 0, 2, 6, 7, 8, math.MaxInt64} {
		if why := r.Snapshot(at, long); why != api.ErrArg || state(r) != was {
			t.Errorf("Snapshot(%d): %d", at, why)
		}
	}
	for _, at := range []int64{3, 4, 5} {
		if why := r.Snapshot(at, long); why != api.ErrSize || state(r) != was {
			t.Errorf("Snapshot(%d) of too much: %d", at, why)
		}
	}
	if why := r.Snapshot(3, nil); why != api.OK || state(r) != was {
		t.Errorf("Snapshot of the base: %d", why)
	}
	if why := r.Snapshot(4, long[:65536]); why != api.OK {
		t.Errorf("Snapshot(4): %d", why)
	}
	wantLog(t, r, 4, 1, "2b 2c 3d")
	if why := r.Snapshot(3, nil); why != api.ErrArg {
		t.Errorf("Snapshot ahead of the base: %d", why)
	}
	if why := r.Snapshot(5, nil); why != api.OK {
		t.Errorf("Snapshot(5): %d", why)
	}
	wantLog(t, r, 5, 2, "2c 3d")
	wantInfo(t, r, Info{Term: 3, Voted: -1, Role: api.Follower, Leader: -1, Commit: 5})
	if at, data, is := r.Installed(); at != 0 || data != nil || is {
		t.Errorf("Installed, of one that was told: %d, %v, %v", at, data, is)
	}
}

// P1 (rules 4, 5): what is handed in is neither changed nor kept, and what is sent shares no memory.
func TestMemory(t *testing.T) {
	r, _ := newLeader(t, 3, 2, logOf(t, ""), 0)
	cmd := []byte("abc")
	_, l, _ := r.Propose(cmd[:2])
	if string(cmd) != "abc" {
		t.Error("Propose changes the command")
	}
	copy(cmd, "xyz")
	for _, m := range l {
		copy(m.Entries[1].Cmd, "!!")
		_ = append(m.Entries[1].Cmd, "more"...)
		m.Entries[0].Term = 77
	}
	if text(l[1].Entries) != "77 2!!" {
		t.Errorf("what was sent: %s", showAll(l))
	}
	wantLog(t, r, 0, 0, "2 2ab")
	told := to0(api.AddTold, 2)
	told.Ok, told.Index = true, 2
	r.Step(told)
	data := []byte("data")
	if why := r.Snapshot(2, data); why != api.OK {
		t.Fatalf("Snapshot: %d", why)
	}
	copy(data, "????")
	for range 2 {
		for _, m := range r.Tick() {
			if m.Kind == api.Snap && string(m.Data) != "data" {
				t.Errorf("the snapshot: %s", m.Data)
			}
			copy(m.Data, "!!!!")
			_ = append(m.Data, "more"...)
		}
	}
}
