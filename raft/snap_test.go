package raft

import (
	"bytes"
	"testing"

	"almoner/api"
)

// snap is a piece of a snapshot that the replica 1 sends the replica 0 as a leader.
func snap(term, index, of, part int64, data string, ok bool) api.Msg {
	m := to0(api.Snap, term)
	m.Index, m.LogTerm, m.Commit, m.Data, m.Ok = index, of, part, []byte(data), ok
	return m
}

// snaps is a piece of a snapshot that the replica 0 sends to another one as a leader.
func snaps(to int, term, index, of, part int64, data string, ok bool) api.Msg {
	m := snap(term, index, of, part, data, ok)
	m.From, m.To = 0, to
	return m
}

// snapTold is what the replica 1 tells the replica 0.
func snapTold(term, index, commit int64) api.Msg {
	m := to0(api.SnapTold, term)
	m.Index, m.Commit = index, commit
	return m
}

func wantInstalled(t *testing.T, r *Raft, at int64, data string) {
	t.Helper()
	gotAt, got, is := r.Installed()
	if gotAt != at || string(got) != data || !is {
		t.Fatalf("Installed: %d, %q, %v; want %d, %q", gotAt, got, is, at, data)
	}
	wantNotInstalled(t, r)
}

func wantNotInstalled(t *testing.T, r *Raft) {
	t.Helper()
	if at, data, is := r.Installed(); at != 0 || data != nil || is {
		t.Fatalf("Installed: %d, %q, %v; want nothing", at, data, is)
	}
}

// newCollector is the replica 0 of three, of the term 5, with the log 1a 2b 3c, of which the first is agreed on.
func newCollector(t *testing.T) *Raft {
	t.Helper()
	return newRaft(t, 0, 3, 5, 2, logOf(t, "1a 2b 3c"), 1)
}

// P10.3: a snapshot that comes in pieces, each of them twice, to one that has nothing of it.
func TestSnapInPieces(t *testing.T) {
	r := newCollector(t)
	ticks(t, r, 9)
	first, second, third := snap(5, 8, 4, 0, "abc", false), snap(5, 8, 4, 3, "de", false), snap(5, 8, 4, 5, "f", true)
	wantMsgs(t, r.Step(first), told(api.SnapTold, 5, false, 8, 3))
	wantInfo(t, r, Info{Term: 5, Voted: 2, Role: api.Follower, Leader: 1, Commit: 1})
	wantMsgs(t, r.Step(first), told(api.SnapTold, 5, false, 8, 3)) // it begins anew
	ticks(t, r, 9)                                                 // it waits anew, too
	wantMsgs(t, r.Step(second), told(api.SnapTold, 5, false, 8, 5))
	wantMsgs(t, r.Step(second), told(api.SnapTold, 5, false, 8, 5))
	wantMsgs(t, r.Step(snap(5, 8, 4, 6, "g", true)), told(api.SnapTold, 5, false, 8, 5))
	wantNotInstalled(t, r)
	wantLog(t, r, 0, 0, "1a 2b 3c")
	wantMsgs(t, r.Step(third), told(api.AddTold, 5, true, 8, 0))
	wantInfo(t, r, Info{Term: 5, Voted: 2, Role: api.Follower, Leader: 1, Commit: 8})
	wantLog(t, r, 8, 4, "")
	wantMsgs(t, r.Step(third), told(api.AddTold, 5, true, 8, 0))
	wantMsgs(t, r.Step(first), told(api.AddTold, 5, true, 8, 0))
	wantInstalled(t, r, 8, "abcdef")
	// Nothing is collected any more.
	wantMsgs(t, r.Step(snap(5, 9, 4, 6, "g", true)), told(api.SnapTold, 5, false, 9, 0))
	wantMsgs(t, r.Step(add(5, 8, 4, "5x", 9)), told(api.AddTold, 5, true, 9, 0))
	wantLog(t, r, 8, 4, "5x")
}

// P10.3: if the log has the snapshot's place with its term, what stands behind it stays.
func TestSnapOfWhatItHas(t *testing.T) {
	for _, c := range []struct {
		index, of int64
		want      string
	}{{2, 2, "3c"}, {3, 3, ""}, {2, 3, ""}, {2, 1, ""}, {2, 0, ""}, {3, 2, ""}, {4, 3, ""}} {
		r := newCollector(t)
		wantMsgs(t, r.Step(snap(5, c.index, c.of, 0, "data", true)), told(api.AddTold, 5, true, c.index, 0))
		wantInfo(t, r, Info{Term: 5, Voted: 2, Role: api.Follower, Leader: 1, Commit: c.index})
		wantLog(t, r, c.index, c.of, c.want)
		wantInstalled(t, r, c.index, "data")
	}
}

// P10.3: a snapshot up to what is agreed on already is none that it needs.
func TestSnapOfWhatIsAgreed(t *testing.T) {
	r := newRaft(t, 0, 3, 5, 2, newLog(t, 2, 1, entries("1a 2b 3c")), 4)
	ticks(t, r, 9)
	for _, index := range []int64{0, 1, 2, 3, 4} {
		wantMsgs(t, r.Step(snap(5, index, 1, 0, "data", true)), told(api.AddTold, 5, true, 4, 0))
		wantInfo(t, r, Info{Term: 5, Voted: 2, Role: api.Follower, Leader: 1, Commit: 4})
		wantLog(t, r, 2, 1, "1a 2b 3c")
		wantNotInstalled(t, r)
	}
	if count, _ := until(t, r); count != 10 {
		t.Errorf("it waits for %d ticks", count)
	}
}

// P10.3: Snap of an elder term; of its own to a leader, and to a candidate.
func TestSnapByRole(t *testing.T) {
	for role, r := range roles(t) {
		was := state(r)
		for _, part := range []int64{0, 7} {
			wantMsgs(t, r.Step(snap(4, 9, 3, part, "data", true)), told(api.SnapTold, 5, false, 9, 0))
		}
		wantMsgs(t, r.Step(snap(4, 1, 3, 0, "data", true)), told(api.SnapTold, 5, false, 1, 0))
		if state(r) != was {
			t.Errorf("%s, and was %s", state(r), was)
		}
		if role == api.Leader {
			wantMsgs(t, r.Step(snap(5, 9, 3, 0, "data", true)))
			if state(r) != was {
				t.Errorf("%s, and was %s", state(r), was)
			}
			wantNotInstalled(t, r)
			continue
		}
		wantMsgs(t, r.Step(snap(5, 9, 3, 0, "data", true)), told(api.AddTold, 5, true, 9, 0))
		wantInfo(t, r, Info{Term: 5, Voted: r.Info().Voted, Role: api.Follower, Leader: 1, Commit: 9})
		wantInstalled(t, r, 9, "data")
	}
}

// P10.3: pieces of another snapshot, and pieces that are not the next one.
func TestSnapOfAnother(t *testing.T) {
	r := newCollector(t)
	// It collects none.
	wantMsgs(t, r.Step(snap(5, 8, 4, 3, "xyz", true)), told(api.SnapTold, 5, false, 8, 0))
	wantMsgs(t, r.Step(snap(5, 8, 4, 0, "abc", false)), told(api.SnapTold, 5, false, 8, 3))
	// Another Index, another LogTerm: it goes on with what it has.
	wantMsgs(t, r.Step(snap(5, 9, 4, 3, "xyz", true)), told(api.SnapTold, 5, false, 9, 0))
	wantMsgs(t, r.Step(snap(5, 8, 3, 3, "xyz", true)), told(api.SnapTold, 5, false, 8, 0))
	// Not the next one; not even if it would be too much.
	wantMsgs(t, r.Step(snap(5, 8, 4, 2, "xyz", true)), told(api.SnapTold, 5, false, 8, 3))
	wantMsgs(t, r.Step(snap(5, 8, 4, 4, string(make([]byte, 65536)), true)), told(api.SnapTold, 5, false, 8, 3))
	wantMsgs(t, r.Step(snap(5, 8, 4, great, "xyz", true)), told(api.SnapTold, 5, false, 8, 3))
	// Of another sender it is the same one.
	m := snap(5, 8, 4, 3, "d", false)
	m.From = 2
	want := told(api.SnapTold, 5, false, 8, 4)
	want.To = 2
	wantMsgs(t, r.Step(m), want)
	if r.Info().Leader != 2 {
		t.Errorf("%+v", r.Info())
	}
	// Of Commit 0 it begins with another one.
	wantMsgs(t, r.Step(snap(5, 9, 4, 0, "x", false)), told(api.SnapTold, 5, false, 9, 1))
	wantMsgs(t, r.Step(snap(5, 8, 4, 4, "e", true)), told(api.SnapTold, 5, false, 8, 0))
	// A new term changes nothing of what it has.
	wantMsgs(t, r.Step(snap(6, 9, 4, 1, "y", true)), told(api.AddTold, 6, true, 9, 0))
	wantInstalled(t, r, 9, "xy")
}

// P10.3: at most 65536 bytes are collected; with one more there are none any more.
func TestSnapOfTooMuch(t *testing.T) {
	half := string(bytes.Repeat([]byte("h"), 32768))
	r := newCollector(t)
	wantMsgs(t, r.Step(snap(5, 8, 4, 0, half, false)), told(api.SnapTold, 5, false, 8, 32768))
	wantMsgs(t, r.Step(snap(5, 8, 4, 32768, half+"x", true)), told(api.SnapTold, 5, false, 8, 0))
	wantMsgs(t, r.Step(snap(5, 8, 4, 32768, half, true)), told(api.SnapTold, 5, false, 8, 0))
	wantMsgs(t, r.Step(snap(5, 8, 4, 0, half+half+"x", true)), told(api.SnapTold, 5, false, 8, 0))
	wantNotInstalled(t, r)
	wantLog(t, r, 0, 0, "1a 2b 3c")
	wantMsgs(t, r.Step(snap(5, 8, 4, 0, half, false)), told(api.SnapTold, 5, false, 8, 32768))
	wantMsgs(t, r.Step(snap(5, 8, 4, 32768, half, true)), told(api.AddTold, 5, true, 8, 0))
	wantInstalled(t, r, 8, half+half)
}

// P10.3: a snapshot of a term above its message's is none that can be.
func TestSnapOfATermThatCanNotBe(t *testing.T) {
	r := newCollector(t)
	wantMsgs(t, r.Step(snap(5, 8, 6, 0, "abc", false)), told(api.SnapTold, 5, false, 8, 3))
	was := state(r)
	wantMsgs(t, r.Step(snap(5, 8, 6, 3, "def", true)), told(api.SnapTold, 5, false, 8, 0))
	if state(r) != was {
		t.Errorf("%s, and was %s", state(r), was)
	}
	wantNotInstalled(t, r)
	wantMsgs(t, r.Step(snap(5, 8, 6, 6, "ghi", false)), told(api.SnapTold, 5, false, 8, 0))
	wantMsgs(t, r.Step(snap(6, 8, 6, 0, "", true)), told(api.AddTold, 6, true, 8, 0))
	wantInstalled(t, r, 8, "")
	wantLog(t, r, 8, 6, "")
}

// P10.4: Installed tells of the last one that came, whatever was told by Snapshot since.
func TestInstalled(t *testing.T) {
	r := newCollector(t)
	r.Step(snap(5, 8, 4, 0, "eight", true))
	r.Step(snap(5, 9, 4, 0, "nine", true))
	r.Step(add(5, 9, 4, "5x", 10))
	if why := r.Snapshot(10, []byte("ten")); why != api.OK {
		t.Errorf("Snapshot: %d", why)
	}
	wantInstalled(t, r, 9, "nine")
	r.Step(snap(5, 12, 5, 0, "twelve", true))
	_, data, _ := r.Installed()
	copy(data, "!!!!!!")
	until(t, r)
	r.Step(with(to0(api.VoteTold, 6), func(m *api.Msg) { m.Ok = true }))
	wantMsgs(t, r.Step(addTold(6, false, 0)), snaps(1, 6, 12, 5, 0, "twelve", true))
}

// P10.2-P10.4: a leader sends its snapshot, piece by piece, to one that is to get what is gone.
func TestSendSnapshot(t *testing.T) {
	r, _ := newLeader(t, 3, 5, logOf(t, "1a 2b 2c"), 3)
	data := ""
	for i := range 2500 {
		data += string(rune('a' + i%26))
	}
	if why := r.Snapshot(2, []byte(data)); why != api.OK {
		t.Fatalf("Snapshot: %d", why)
	}
	wantMsgs(t, r.Tick(), adds(1, 5, 3, 2, "5", 3), adds(2, 5, 3, 2, "5", 3))
	wantMsgs(t, r.Step(addTold(5, false, 2)), adds(1, 5, 2, 2, "2c 5", 3))
	wantMsgs(t, r.Step(addTold(5, false, 1)), snaps(1, 5, 2, 2, 0, data[:1000], false))
	wantMsgs(t, r.Tick(), snaps(1, 5, 2, 2, 0, data[:1000], false), adds(2, 5, 3, 2, "5", 3))
	wantMsgs(t, r.Step(snapTold(5, 2, 1000)), snaps(1, 5, 2, 2, 1000, data[1000:2000], false))
	wantMsgs(t, r.Step(snapTold(5, 2, 1500)), snaps(1, 5, 2, 2, 1500, data[1500:], true))
	wantMsgs(t, r.Step(snapTold(5, 2, 2000)), snaps(1, 5, 2, 2, 2000, data[2000:], true))
	wantMsgs(t, r.Tick(), snaps(1, 5, 2, 2, 2000, data[2000:], true), adds(2, 5, 3, 2, "5", 3))
	wantMsgs(t, r.Step(snapTold(5, 2, 2500)), snaps(1, 5, 2, 2, 2500, "", true))
	wantMsgs(t, r.Step(snapTold(5, 2, 2501)), snaps(1, 5, 2, 2, 2500, "", true))
	wantMsgs(t, r.Step(snapTold(5, 2, great)), snaps(1, 5, 2, 2, 2500, "", true))
	wantMsgs(t, r.Step(snapTold(5, 2, 0)), snaps(1, 5, 2, 2, 0, data[:1000], false))
	// Of another place, or of an elder term, nothing.
	wantMsgs(t, r.Step(snapTold(5, 1, 1000)))
	wantMsgs(t, r.Step(snapTold(5, 3, 1000)))
	wantMsgs(t, r.Step(snapTold(4, 2, 1000)))
	wantMsgs(t, r.Step(snapTold(5, 2, 1000)), snaps(1, 5, 2, 2, 1000, data[1000:2000], false))
	// Another snapshot is sent from its beginning on.
	if why := r.Snapshot(3, []byte("short")); why != api.OK {
		t.Fatalf("Snapshot: %d", why)
	}
	wantMsgs(t, r.Tick(), snaps(1, 5, 3, 2, 0, "short", true), adds(2, 5, 3, 2, "5", 3))
	wantMsgs(t, r.Step(snapTold(5, 2, 2000)))
	// Who has it gets what is behind it.
	wantMsgs(t, r.Step(addTold(5, true, 3)), adds(1, 5, 3, 2, "5", 3))
	wantMsgs(t, r.Step(snapTold(5, 3, 2)), adds(1, 5, 3, 2, "5", 3))
	wantInfo(t, r, Info{Term: 5, Voted: 0, Role: api.Leader, Leader: 0, Commit: 3})
}

// P10.2: pieces at their edges: just as many bytes as go in one, none, one more.
func TestPieces(t *testing.T) {
	for _, size := range []int{0, 1, 999, 1000, 1001, 2000} {
		r, _ := newLeader(t, 2, 2, logOf(t, "1a"), 1)
		data := string(bytes.Repeat([]byte("p"), size))
		r.Snapshot(1, []byte(data))
		wantMsgs(t, r.Step(addTold(2, false, 0)), snaps(1, 2, 1, 1, 0, data[:min(1000, size)], size <= 1000))
		if size > 1000 {
			wantMsgs(t, r.Step(snapTold(2, 1, 1000)), snaps(1, 2, 1, 1, 1000, data[1000:], true))
		}
	}
}

// P10.2, P10.3: a leader without a snapshot of its base sends nothing to one that is to get what is gone; with one told it does.
func TestSendWithoutSnapshot(t *testing.T) {
	r, _ := newLeader(t, 3, 5, newLog(t, 2, 1, entries("1a")), 2)
	wantMsgs(t, r.Step(addTold(5, false, 1)))
	wantMsgs(t, r.Step(snapTold(5, 2, 0)))
	wantMsgs(t, r.Step(snapTold(5, 0, 0)))
	wantMsgs(t, r.Tick(), adds(2, 5, 3, 1, "5", 2))
	r.Snapshot(2, nil)
	wantMsgs(t, r.Tick(), snaps(1, 5, 2, 1, 0, "", true), adds(2, 5, 3, 1, "5", 2))
}

// P10.3: SnapTold to one that does not lead, or that leads again.
func TestSnapToldByRole(t *testing.T) {
	for role, r := range roles(t) {
		r.Snapshot(1, bytes.Repeat([]byte("s"), 1500))
		was := state(r)
		l := r.Step(snapTold(5, 1, 1000))
		if state(r) != was {
			t.Errorf("%s, and was %s", state(r), was)
		}
		if role != api.Leader {
			wantMsgs(t, l)
			continue
		}
		wantMsgs(t, l, adds(1, 5, 2, 3, "5", 1))
		// What it knew of the others is gone when it leads again.
		r.Step(to0(api.VoteTold, 6))
		until(t, r)
		r.Step(with(to0(api.VoteTold, 7), func(m *api.Msg) { m.Ok = true }))
		wantMsgs(t, r.Step(addTold(7, false, 0)), snaps(1, 7, 1, 1, 0, string(bytes.Repeat([]byte("s"), 1000)), false))
	}
}

// P1 (rule 5): the bytes of a piece, and the entries that come, are not kept.
func TestStepKeepsNothing(t *testing.T) {
	r := newCollector(t)
	first, second := snap(5, 8, 4, 0, "abc", false), snap(5, 8, 4, 3, "def", true)
	r.Step(first)
	copy(first.Data, "!!!")
	r.Step(second)
	copy(second.Data, "!!!")
	m := add(5, 8, 4, "5x 5y", 9)
	r.Step(m)
	if show(m) != show(add(5, 8, 4, "5x 5y", 9)) {
		t.Errorf("it is changed: %s", show(m))
	}
	m.Entries[0].Cmd[0] = '!'
	m.Entries[1] = api.Entry{Term: 77}
	wantLog(t, r, 8, 4, "5x 5y")
	wantInstalled(t, r, 8, "abcdef")
}
