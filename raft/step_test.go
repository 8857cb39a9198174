package raft

import (
	"math"
	"testing"

	"almoner/api"
)

// with is a message with more in it.
func with(m api.Msg, set func(m *api.Msg)) api.Msg {
	set(&m)
	return m
}

// told is what the replica 0 tells the replica 1.
func told(kind int, term int64, ok bool, index, commit int64) api.Msg {
	m := from0(kind, 1, term)
	m.Ok, m.Index, m.Commit = ok, index, commit
	return m
}

// add is what the replica 1 sends the replica 0 as a leader.
func add(term, index, of int64, l string, commit int64) api.Msg {
	m := to0(api.Add, term)
	m.Index, m.LogTerm, m.Entries, m.Commit = index, of, entries(l), commit
	return m
}

// addTold is what the replica 1 tells the replica 0.
func addTold(term int64, ok bool, index int64) api.Msg {
	m := to0(api.AddTold, term)
	m.Ok, m.Index = ok, index
	return m
}

// adds is what the replica 0 sends to another one as a leader.
func adds(to int, term, index, of int64, l string, commit int64) api.Msg {
	m := add(term, index, of, l, commit)
	m.From, m.To = 0, to
	return m
}

// roles is a follower, a candidate and a leader, each the replica 0 of three, of the term 5, with the log 1a 3b, of which the first is agreed on.
func roles(t *testing.T) []*Raft {
	t.Helper()
	follower := newRaft(t, 0, 3, 5, 2, logOf(t, "1a 3b"), 1)
	follower.Step(with(add(5, 1, 1, "", 0), func(m *api.Msg) { m.From = 2 }))
	candidate := newRaft(t, 0, 3, 4, -1, logOf(t, "1a 3b"), 1)
	until(t, candidate)
	leader, _ := newLeader(t, 3, 5, logOf(t, "1a 3b"), 1)
	return []*Raft{follower, candidate, leader}
}

// P10.3: messages with which nothing is done, in no role; their term is not taken either.
func TestStepOfWhatCanNotBe(t *testing.T) {
	wrong := []func(m *api.Msg){
		func(m *api.Msg) { m.Group = 1 },
		func(m *api.Msg) { m.Group = 3 },
		func(m *api.Msg) { m.To = 1 },
		func(m *api.Msg) { m.To = -1 },
		func(m *api.Msg) { m.From = 0 },
		func(m *api.Msg) { m.From = 3 },
		func(m *api.Msg) { m.From = -1 },
		func(m *api.Msg) { m.From = math.MaxInt },
		func(m *api.Msg) { m.From = math.MinInt },
		func(m *api.Msg) { m.Kind = 0 },
		func(m *api.Msg) { m.Kind = 7 },
		func(m *api.Msg) { m.Kind = -1 },
		func(m *api.Msg) { m.Kind = math.MaxInt },
		func(m *api.Msg) { m.Term = great + 1 },
		func(m *api.Msg) { m.Term = math.MaxInt64 },
		func(m *api.Msg) { m.Term = 0 },
		func(m *api.Msg) { m.Term = -1 },
		func(m *api.Msg) { m.Term = math.MinInt64 },
		func(m *api.Msg) { m.Index = -1 },
		func(m *api.Msg) { m.Index = great + 1 },
		func(m *api.Msg) { m.LogTerm = -1 },
		func(m *api.Msg) { m.LogTerm = great + 1 },
		func(m *api.Msg) { m.Commit = -1 },
		func(m *api.Msg) { m.Commit = great + 1 },
		func(m *api.Msg) { m.Commit = math.MinInt64 },
	}
	for _, r := range roles(t) {
		was := state(r)
		for kind := api.Vote; kind <= api.SnapTold; kind++ {
			for _, term := range []int64{4, 5, 6} {
				for i, set := range wrong {
					m := with(to0(kind, term), func(m *api.Msg) { m.Index, m.LogTerm, m.Ok = 2, 3, true })
					set(&m)
					if l := r.Step(m); len(l) != 0 || state(r) != was {
						t.Fatalf("the wrong one %d, %s: %s, and it is %s", i, show(m), showAll(l), state(r))
					}
				}
			}
		}
	}
}

// P10.3: the greatest numbers that a message may have.
func TestStepOfTheGreatest(t *testing.T) {
	r := newRaft(t, 0, 3, 5, -1, logOf(t, "1a 3b"), 1)
	m := to0(api.Vote, great)
	m.Index, m.LogTerm, m.Commit = great, great, great
	wantMsgs(t, r.Step(m), told(api.VoteTold, great, true, 0, 0))
	m.Kind = api.Add
	wantMsgs(t, r.Step(m), told(api.AddTold, great, false, 2, 0))
	m.Kind, m.Commit, m.Ok = api.Snap, 0, true
	wantMsgs(t, r.Step(m), told(api.AddTold, great, true, great, 0))
	wantInfo(t, r, Info{Term: great, Voted: 1, Role: api.Follower, Leader: 1, Commit: great})
	wantLog(t, r, great, great, "")
}

// P10.3: a term above its own is taken, whatever the message is.
func TestStepOfANewTerm(t *testing.T) {
	for kind := api.Vote; kind <= api.SnapTold; kind++ {
		for role, r := range roles(t) {
			l := r.Step(to0(kind, 6)) // Vote: its log is not new enough to get a vote
			want := Info{Term: 6, Voted: -1, Role: api.Follower, Leader: -1, Commit: 1}
			switch kind {
			case api.Vote:
				wantMsgs(t, l, told(api.VoteTold, 6, false, 0, 0))
			case api.Add:
				want.Leader = 1
				wantMsgs(t, l, told(api.AddTold, 6, true, 0, 0))
			case api.Snap:
				want.Leader = 1
				wantMsgs(t, l, told(api.AddTold, 6, true, 1, 0))
			default:
				wantMsgs(t, l)
			}
			wantInfo(t, r, want)
			if role == api.Leader {
				wantLog(t, r, 0, 0, "1a 3b 5")
			}
		}
	}
}

// P10.3: a leader that learns of a new term stops to lead, and waits from where it had stopped to wait.
func TestLeaderStopsToLead(t *testing.T) {
	r := newRaft(t, 0, 3, 0, -1, logOf(t, ""), 0)
	until(t, r)
	ticks(t, r, 3)
	r.Step(with(to0(api.VoteTold, 1), func(m *api.Msg) { m.Ok = true }))
	for range 30 {
		if len(r.Tick()) != 2 {
			t.Fatal("no leader")
		}
	}
	r.Step(to0(api.AddTold, 2))
	if count, _ := until(t, r); count != 7 {
		t.Errorf("an election begins behind %d ticks", count)
	}
	wantInfo(t, r, Info{Term: 3, Voted: 0, Role: api.Candidate, Leader: -1, Commit: 0})
}

// P10.3: Vote: whom it votes for.
func TestVote(t *testing.T) {
	for _, c := range []struct {
		voted     int
		term      int64
		index, of int64
		agrees    bool
		now       int
	}{
		{-1, 5, 2, 3, true, 1},
		{-1, 5, 9, 3, true, 1},
		{-1, 5, 0, 4, true, 1},
		{1, 5, 2, 3, true, 1},
		{2, 5, 2, 3, false, 2},
		{0, 5, 2, 3, false, 0},
		{-1, 5, 1, 3, false, -1},
		{-1, 5, 9, 2, false, -1},
		{1, 5, 1, 3, false, 1},
		{-1, 4, 2, 3, false, -1},
		{1, 4, 2, 3, false, 1},
		{-1, 1, 9, 9, false, -1},
		{2, 6, 2, 3, true, 1},
		{0, 6, 2, 3, true, 1},
		{2, 6, 1, 3, false, -1},
		{2, great, 2, 3, true, 1},
	} {
		r := newRaft(t, 0, 3, 5, c.voted, logOf(t, "1a 3b"), 1)
		ticks(t, r, 9)
		m := with(to0(api.Vote, c.term), func(m *api.Msg) { m.Index, m.LogTerm = c.index, c.of })
		term := max(5, c.term)
		for range 2 { // once more, it is the same
			wantMsgs(t, r.Step(m), told(api.VoteTold, term, c.agrees, 0, 0))
			wantInfo(t, r, Info{Term: term, Voted: c.now, Role: api.Follower, Leader: -1, Commit: 1})
		}
		// With its vote it waits anew, else not.
		waits := 1
		if c.agrees {
			waits = 10
		}
		if term == great {
			continue
		}
		if count, _ := until(t, r); count != waits {
			t.Errorf("behind %s it waits for %d ticks", show(m), count)
		}
	}
}

// P10.3: of two that ask in one term, one gets the vote; a candidate and a leader have voted for themselves.
func TestVoteOnce(t *testing.T) {
	first := with(to0(api.Vote, 6), func(m *api.Msg) { m.From, m.Index, m.LogTerm = 2, 2, 3 })
	second := with(first, func(m *api.Msg) { m.From = 1 })
	r := newRaft(t, 0, 3, 5, -1, logOf(t, "1a 3b"), 1)
	r.Step(first)
	wantMsgs(t, r.Step(second), told(api.VoteTold, 6, false, 0, 0))
	if r.Info().Voted != 2 {
		t.Errorf("Voted: %d", r.Info().Voted)
	}
	for _, r := range roles(t)[1:] {
		was := state(r)
		m := with(second, func(m *api.Msg) { m.Term, m.Index, m.LogTerm = 5, 9, 9 })
		wantMsgs(t, r.Step(m), told(api.VoteTold, 5, false, 0, 0))
		if state(r) != was {
			t.Errorf("%s, and was %s", state(r), was)
		}
	}
}

// P10.3: VoteTold: with more than half of all it leads, and not ahead of that; a vote counts once.
func TestVoteTold(t *testing.T) {
	for n := 2; n <= 5; n++ {
		r := newRaft(t, 0, n, 2, -1, logOf(t, "1a 2b"), 0)
		yes := with(to0(api.VoteTold, 3), func(m *api.Msg) { m.Ok = true })
		wantMsgs(t, r.Step(with(yes, func(m *api.Msg) { m.Term = 2 }))) // a follower does nothing
		until(t, r)
		no := with(yes, func(m *api.Msg) { m.Ok = false })
		elder := with(yes, func(m *api.Msg) { m.Term = 2 })
		candidate := Info{Term: 3, Voted: 0, Role: api.Candidate, Leader: -1, Commit: 0}
		for from := 1; from < n; from++ {
			for _, m := range []api.Msg{no, elder, yes, yes} {
				m.From = from
				l := r.Step(m)
				if m.Ok && m.Term == 3 && from == n/2 {
					var want []api.Msg
					for to := 1; to < n; to++ {
						want = append(want, adds(to, 3, 2, 2, "3", 0))
					}
					wantMsgs(t, l, want...)
					break
				}
				wantMsgs(t, l)
				wantInfo(t, r, candidate)
			}
			if from == n/2 {
				break
			}
		}
		wantInfo(t, r, Info{Term: 3, Voted: 0, Role: api.Leader, Leader: 0, Commit: 0})
		wantLog(t, r, 0, 0, "1a 2b 3")
		wantMsgs(t, r.Step(yes)) // who leads already does nothing
		wantLog(t, r, 0, 0, "1a 2b 3")
	}
}

// P10.3: votes of an election count in no other one.
func TestVotesOfAnElderElection(t *testing.T) {
	r := newRaft(t, 0, 5, 0, -1, logOf(t, ""), 0)
	for term := int64(1); term < 4; term++ {
		until(t, r)
		m := with(to0(api.VoteTold, term), func(m *api.Msg) { m.Ok, m.From = true, int(term) })
		wantMsgs(t, r.Step(m))
		wantInfo(t, r, Info{Term: term, Voted: 0, Role: api.Candidate, Leader: -1, Commit: 0})
	}
	// One that follows in its own term is no candidate any more.
	r.Step(add(3, 0, 0, "", 0))
	for from := 1; from < 5; from++ {
		wantMsgs(t, r.Step(with(to0(api.VoteTold, 3), func(m *api.Msg) { m.Ok, m.From = true, from })))
	}
	wantInfo(t, r, Info{Term: 3, Voted: 0, Role: api.Follower, Leader: 1, Commit: 0})
}

// P10.2, P10.3: one that leads without room for an entry of its term, and one whose log has a base.
func TestLead(t *testing.T) {
	r, l := newLeader(t, 2, 7, newLog(t, 0, 0, many(4096, 6)), 9)
	wantMsgs(t, l, adds(1, 7, 4096, 6, "", 9))
	if r.Log().Len() != 4096 {
		t.Errorf("Len: %d", r.Log().Len())
	}
	wantMsgs(t, r.Step(addTold(7, true, 4096)))
	wantInfo(t, r, Info{Term: 7, Voted: 0, Role: api.Leader, Leader: 0, Commit: 9})
	r, l = newLeader(t, 3, 7, newLog(t, 8, 4, nil), 8)
	wantMsgs(t, l, adds(1, 7, 8, 4, "7", 8), adds(2, 7, 8, 4, "7", 8))
	wantMsgs(t, r.Tick(), adds(1, 7, 8, 4, "7", 8), adds(2, 7, 8, 4, "7", 8))
}

// P10.3: Add to one whose log is 1a 1b 2c 4d behind the base 2 (term 1), of the term 5, with commit 4.
func TestAdd(t *testing.T) {
	for _, c := range []struct {
		term, index, of int64
		l               string
		commit          int64
		ok              bool
		at              int64
		now             int64 // commit
		want            string
	}{
		// It is matched.
		{5, 6, 4, "", 0, true, 6, 4, ""},
		{5, 6, 4, "", 6, true, 6, 6, ""},
		{5, 6, 4, "", great, true, 6, 6, ""},
		{5, 5, 2, "", 6, true, 5, 5, ""},
		{5, 5, 2, "", 3, true, 5, 4, ""},
		{5, 4, 1, "2x", 9, true, 5, 5, ""},
		{5, 6, 4, "4e 5f", 7, true, 8, 7, "1a 1b 2c 4d 4e 5f"},
		{5, 5, 2, "5x", 4, true, 6, 4, "1a 1b 2c 5x"},
		{5, 4, 1, "3x", 9, true, 5, 5, "1a 1b 3x"},
		{5, 3, 1, "1x 3y 3z", 6, true, 6, 6, "1a 1b 3y 3z"},
		{5, 2, 1, "1x 1y", 0, true, 4, 4, ""},
		{5, 0, 0, "1x 1y", 0, true, 2, 4, ""},
		{5, 0, 9, "5v 1w 1x 1y 3z", 5, true, 5, 5, "1a 1b 3z"},
		{6, 6, 4, "6e", 0, true, 7, 4, "1a 1b 2c 4d 6e"},
		// It is none that can be matched.
		{5, 6, 3, "", 6, false, 5, 4, ""},
		{5, 6, 5, "5e", 6, false, 5, 4, ""},
		{5, 5, 4, "", 6, false, 4, 4, ""},
		{5, 7, 4, "5e", 6, false, 6, 4, ""},
		{5, 8, 4, "5e", 6, false, 6, 4, ""},
		{5, great, 4, "5e", 6, false, 6, 4, ""},
		{5, 1, 1, "", 6, false, 0, 4, ""},
		{5, 0, 0, "1x", 6, false, 0, 4, ""},
		{5, 2, 2, "", 6, false, 1, 4, ""},
		{5, 6, 4, "3e", 6, false, 5, 4, ""},
		{5, 6, 4, "5e 4f", 6, false, 5, 4, ""},
		{5, 5, 2, "0x", 6, false, 4, 4, ""},
		// An entry is of a term above the message's.
		{5, 6, 4, "6e", 6, false, 5, 4, ""},
		{5, 6, 4, "5e 6f", 6, false, 5, 4, ""},
		{5, 0, 0, "6v 1w 1x", 6, false, 0, 4, ""},
		// Something that is agreed on would change.
		{5, 3, 1, "2x", 6, false, 2, 4, ""},
		{5, 2, 1, "2x 2y", 6, false, 1, 4, ""},
		{5, 2, 1, "1x 3y", 6, false, 1, 4, ""},
		{5, 0, 0, "1v 1w 2x", 6, false, 0, 4, ""},
	} {
		r := newRaft(t, 0, 3, 5, 2, newLog(t, 2, 1, entries("1a 1b 2c 4d")), 4)
		ticks(t, r, 9)
		if c.want == "" {
			c.want = "1a 1b 2c 4d"
		}
		want := Info{Term: c.term, Voted: 2, Role: api.Follower, Leader: 1, Commit: c.now}
		if c.term > 5 {
			want.Voted = -1
		}
		m := add(c.term, c.index, c.of, c.l, c.commit)
		for range 2 { // once more, it is the same
			wantMsgs(t, r.Step(m), told(api.AddTold, c.term, c.ok, c.at, 0))
			wantInfo(t, r, want)
			wantLog(t, r, 2, 1, c.want)
		}
		if count, _ := until(t, r); count != 10 {
			t.Errorf("it waits for %d ticks", count)
		}
	}
}

// P10.3: Add of an elder term; of its own to a leader, and to a candidate.
func TestAddByRole(t *testing.T) {
	for role, r := range roles(t) {
		was := state(r)
		wantMsgs(t, r.Step(add(4, 2, 3, "4x", 2)), told(api.AddTold, 5, false, 0, 0))
		if state(r) != was {
			t.Errorf("%s, and was %s", state(r), was)
		}
		if role == api.Leader {
			wantMsgs(t, r.Step(add(5, 2, 3, "5x", 2)))
			if state(r) != was {
				t.Errorf("%s, and was %s", state(r), was)
			}
			continue
		}
		wantMsgs(t, r.Step(add(5, 2, 3, "5x", 2)), told(api.AddTold, 5, true, 3, 0))
		wantInfo(t, r, Info{Term: 5, Voted: r.Info().Voted, Role: api.Follower, Leader: 1, Commit: 2})
		wantLog(t, r, 0, 0, "1a 3b 5x")
	}
	// What comes of an elder term lets nobody wait anew.
	r := newRaft(t, 0, 3, 5, 2, logOf(t, ""), 0)
	ticks(t, r, 9)
	r.Step(add(4, 0, 0, "", 0))
	r.Step(to0(api.Snap, 4))
	if count, _ := until(t, r); count != 1 {
		t.Errorf("it waits for %d ticks", count)
	}
}

// P10.3: an Add for which there is no room is refused, and changes nothing.
func TestAddToAFullLog(t *testing.T) {
	r := newRaft(t, 0, 3, 5, -1, newLog(t, 0, 0, many(4095, 2)), 4000)
	m := add(5, 4095, 2, "5x 5y", 5000)
	wantMsgs(t, r.Step(m), told(api.AddTold, 5, false, 4094, 0))
	if r.Log().Len() != 4095 || r.Info().Commit != 4000 {
		t.Errorf("Len %d, %+v", r.Log().Len(), r.Info())
	}
	wantMsgs(t, r.Step(add(5, 4095, 2, "5x", 5000)), told(api.AddTold, 5, true, 4096, 0))
	if r.Log().Len() != 4096 || r.Info().Commit != 4096 {
		t.Errorf("Len %d, %+v", r.Log().Len(), r.Info())
	}
	m = add(5, 0, 0, "", 0)
	m.Entries = many(4097, 2)
	wantMsgs(t, r.Step(m), told(api.AddTold, 5, false, 0, 0))
}

// P10.3: AddTold, as a leader of three with the log 1a 1b 5 goes on and back.
func TestAddTold(t *testing.T) {
	r, l := newLeader(t, 3, 5, logOf(t, "1a 1b"), 0)
	wantMsgs(t, l, adds(1, 5, 2, 1, "5", 0), adds(2, 5, 2, 1, "5", 0))
	// Back: to the place ahead, or to the one that is told.
	wantMsgs(t, r.Step(addTold(5, false, 9)), adds(1, 5, 1, 1, "1b 5", 0))
	wantMsgs(t, r.Step(addTold(5, false, 0)), adds(1, 5, 0, 0, "1a 1b 5", 0))
	wantMsgs(t, r.Step(addTold(5, false, 0)), adds(1, 5, 0, 0, "1a 1b 5", 0))
	wantMsgs(t, r.Tick(), adds(1, 5, 0, 0, "1a 1b 5", 0), adds(2, 5, 2, 1, "5", 0))
	// On: what a majority has of an elder term is not agreed on.
	wantMsgs(t, r.Step(addTold(5, true, 1)), adds(1, 5, 1, 1, "1b 5", 0))
	wantMsgs(t, r.Step(addTold(5, true, 2)), adds(1, 5, 2, 1, "5", 0))
	// Back, but not to what it has.
	wantMsgs(t, r.Step(addTold(5, false, 0)), adds(1, 5, 2, 1, "5", 0))
	// An elder one takes nothing back.
	wantMsgs(t, r.Step(addTold(5, true, 1)), adds(1, 5, 2, 1, "5", 0))
	// Of an elder term, and of a place that there is not: nothing.
	wantMsgs(t, r.Step(addTold(4, true, 3)))
	wantMsgs(t, r.Step(addTold(4, false, 0)))
	wantMsgs(t, r.Step(addTold(5, true, 4)))
	wantInfo(t, r, Info{Term: 5, Voted: 0, Role: api.Leader, Leader: 0, Commit: 0})
	wantMsgs(t, r.Tick(), adds(1, 5, 2, 1, "5", 0), adds(2, 5, 2, 1, "5", 0))
	// With an entry of its term all ahead of it is agreed on, too.
	wantMsgs(t, r.Step(addTold(5, true, 3)))
	wantInfo(t, r, Info{Term: 5, Voted: 0, Role: api.Leader, Leader: 0, Commit: 3})
	wantMsgs(t, r.Tick(), adds(1, 5, 3, 5, "", 3), adds(2, 5, 2, 1, "5", 3))
	wantMsgs(t, r.Step(addTold(5, true, 3)))
	// Nobody but a leader does something with it.
	for _, r := range roles(t)[:2] {
		was := state(r)
		for index := range int64(4) {
			wantMsgs(t, r.Step(addTold(5, true, index)))
			wantMsgs(t, r.Step(addTold(5, false, index)))
		}
		if state(r) != was {
			t.Errorf("%s, and was %s", state(r), was)
		}
	}
}

// P10.3: what a leader knew of the others is gone when it leads again.
func TestLeadAgain(t *testing.T) {
	r, _ := newLeader(t, 3, 5, logOf(t, "1a 1b"), 0)
	r.Step(addTold(5, true, 3))
	r.Step(to0(api.VoteTold, 6))
	until(t, r)
	l := r.Step(with(to0(api.VoteTold, 7), func(m *api.Msg) { m.Ok = true }))
	wantMsgs(t, l, adds(1, 7, 3, 5, "7", 3), adds(2, 7, 3, 5, "7", 3))
	wantMsgs(t, r.Step(addTold(7, false, 0)), adds(1, 7, 0, 0, "1a 1b 5 7", 3))
	wantMsgs(t, r.Step(addTold(7, true, 4)))
	wantInfo(t, r, Info{Term: 7, Voted: 0, Role: api.Leader, Leader: 0, Commit: 4})
}

// P10.3: not Ok, it goes back by one place at least, and to the one that is told at most.
func TestGoBack(t *testing.T) {
	l := "1a 1b 1c 1d 1e 1f"
	for _, c := range []struct {
		index, next int64
	}{{0, 1}, {1, 2}, {4, 5}, {5, 6}, {6, 6}, {great, 6}} {
		r, _ := newLeader(t, 3, 2, logOf(t, l), 0)
		rest := text(append(entries(l)[c.next-1:], entries("2")...))
		of := int64(min(1, c.next-1))
		wantMsgs(t, r.Step(addTold(2, false, c.index)), adds(1, 2, c.next-1, of, rest, 0))
	}
}

// P10.3: commit is the greatest place that a majority has, itself too.
func TestCount(t *testing.T) {
	for _, c := range []struct {
		n       int
		matches []int64
		commit  int64
	}{
		{2, []int64{3}, 3},
		{2, []int64{6}, 6},
		{3, []int64{0, 4}, 4},
		{3, []int64{5, 4}, 5},
		{3, []int64{6, 6}, 6},
		{4, []int64{6, 0, 0}, 0},
		{4, []int64{6, 5, 0}, 5},
		{4, []int64{4, 5, 6}, 5},
		{5, []int64{6, 0, 0, 0}, 0},
		{5, []int64{6, 5, 0, 0}, 5},
		{5, []int64{3, 4, 5, 6}, 5},
		{5, []int64{1, 1, 4, 5}, 4},
		// Places of an elder term count with one of its own alone.
		{3, []int64{2, 2}, 0},
		{5, []int64{2, 2, 2, 6}, 0},
		{5, []int64{2, 2, 3, 6}, 3},
	} {
		r, _ := newLeader(t, c.n, 4, logOf(t, "1a 2b"), 0)
		for range 3 {
			r.Propose([]byte("x"))
		}
		if at, _, why := r.Propose(nil); at != 7 || why != api.OK {
			t.Fatalf("Propose: %d, %d", at, why)
		}
		for i, match := range c.matches {
			r.Step(with(addTold(4, true, match), func(m *api.Msg) { m.From = i + 1 }))
		}
		if got := r.Info().Commit; got != c.commit {
			t.Errorf("of %v commit is %d, want %d", c.matches, got, c.commit)
		}
	}
}

// P10.2: at most 20 entries go in a message; what is left follows when they are told.
func TestAddsOfManyEntries(t *testing.T) {
	r, l := newLeader(t, 2, 2, newLog(t, 0, 0, many(60, 1)), 0)
	wantMsgs(t, l, adds(1, 2, 60, 1, "2", 0))
	l = r.Step(addTold(2, false, 10))
	wantMsgs(t, l, adds(1, 2, 10, 1, text(many(20, 1)), 0))
	l = r.Step(addTold(2, true, 30))
	wantMsgs(t, l, adds(1, 2, 30, 1, text(many(20, 1)), 0))
	l = r.Step(addTold(2, true, 50))
	wantMsgs(t, l, adds(1, 2, 50, 1, text(many(10, 1))+" 2", 0))
	wantMsgs(t, r.Step(addTold(2, true, 61)))
	if r.Info().Commit != 61 {
		t.Errorf("%+v", r.Info())
	}
}
