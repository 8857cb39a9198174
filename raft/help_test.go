package raft

import (
	"fmt"
	"math"
	"strconv"
	"strings"
	"testing"

	"almoner/api"
	"almoner/rlog"
)

// great is the greatest term, place and number of bytes that a message may tell.
const great = int64(1) << 60

// entries is the entries that a text tells: 2a is one of the term 2 with the command a.
func entries(text string) []api.Entry {
	var l []api.Entry
	for _, word := range strings.Fields(text) {
		digits := strings.TrimRight(word, "abcdefghijklmnopqrstuvwxyz")
		term, err := strconv.ParseInt(digits, 10, 64)
		if err != nil {
			panic(err)
		}
		l = append(l, api.Entry{Term: term, Cmd: []byte(word[len(digits):])})
	}
	return l
}

// many is so many entries of a term.
func many(count int, term int64) []api.Entry {
	l := make([]api.Entry, count)
	for i := range l {
		l[i].Term = term
	}
	return l
}

// text is entries as a text.
func text(l []api.Entry) string {
	var words []string
	for _, e := range l {
		words = append(words, fmt.Sprintf("%d%s", e.Term, e.Cmd))
	}
	return strings.Join(words, " ")
}

// show is a message as a text.
func show(m api.Msg) string {
	return fmt.Sprintf("{kind %d of %d, %d>%d, term %d: index %d/%d, commit %d, %v [%s] %q}",
		m.Kind, m.Group, m.From, m.To, m.Term, m.Index, m.LogTerm, m.Commit, m.Ok, text(m.Entries), m.Data)
}

func showAll(l []api.Msg) string {
	var out []string
	for _, m := range l {
		out = append(out, show(m))
	}
	return strings.Join(out, " ")
}

// wantMsgs holds what is to be sent against what is wanted.
func wantMsgs(t *testing.T, got []api.Msg, want ...api.Msg) {
	t.Helper()
	if showAll(got) != showAll(want) {
		t.Fatalf("it sends %s;\nwant %s", showAll(got), showAll(want))
	}
}

func newLog(t *testing.T, base, term int64, l []api.Entry) *rlog.Log {
	t.Helper()
	g, why := rlog.New(base, term, l)
	if why != api.OK {
		t.Fatalf("rlog.New(%d, %d, %d entries): %d", base, term, len(l), why)
	}
	return g
}

// logOf is a log of the entries that a text tells, from the place 1 on.
func logOf(t *testing.T, l string) *rlog.Log {
	t.Helper()
	return newLog(t, 0, 0, entries(l))
}

// newRaft is the replica me of n of the group 2.
func newRaft(t *testing.T, me, n int, term int64, voted int, g *rlog.Log, commit int64) *Raft {
	t.Helper()
	r, why := New(2, me, n, term, voted, g, commit)
	if r == nil || why != api.OK {
		t.Fatalf("New: %v, %d", r, why)
	}
	return r
}

// ticks lets so many ticks pass, and asks that nothing is sent.
func ticks(t *testing.T, r *Raft, count int) {
	t.Helper()
	for i := range count {
		if l := r.Tick(); len(l) != 0 {
			t.Fatalf("the tick %d of %d sends %s", i+1, count, showAll(l))
		}
	}
}

// until lets ticks pass until an election begins, and answers how many they were, and what is sent.
func until(t *testing.T, r *Raft) (int, []api.Msg) {
	t.Helper()
	term := r.Info().Term
	for count := 1; count < 100; count++ {
		if l := r.Tick(); r.Info().Term != term {
			return count, l
		}
	}
	t.Fatal("no election begins")
	return 0, nil
}

// newLeader is the replica 0 of n, with a log of these entries, that leads, and what it sent when it began to.
func newLeader(t *testing.T, n int, term int64, g *rlog.Log, commit int64) (*Raft, []api.Msg) {
	t.Helper()
	r := newRaft(t, 0, n, term-1, -1, g, commit)
	_, l := until(t, r)
	for from := 1; from <= n/2; from++ {
		l = r.Step(api.Msg{Kind: api.VoteTold, Group: 2, From: from, Term: term, Ok: true})
	}
	wantInfo(t, r, Info{Term: term, Voted: 0, Role: api.Leader, Leader: 0, Commit: r.Info().Commit})
	return r, l
}

func wantInfo(t *testing.T, r *Raft, want Info) {
	t.Helper()
	if got := r.Info(); got != want {
		t.Fatalf("Info: %+v; want %+v", got, want)
	}
}

// wantLog holds a replica's log against what it is to have behind its base.
func wantLog(t *testing.T, r *Raft, base, term int64, want string) {
	t.Helper()
	g := r.Log()
	b, of := g.Base()
	if got := text(g.Part(b+1, math.MaxInt)); b != base || of != term || got != want {
		t.Fatalf("the log: %d/%d: %s; want %d/%d: %s", b, of, got, base, term, want)
	}
}

// state is all of a replica that can be seen without changing it.
func state(r *Raft) string {
	g := r.Log()
	base, term := g.Base()
	return fmt.Sprintf("%+v %d/%d: %s", r.Info(), base, term, text(g.Part(base+1, math.MaxInt)))
}

// to0 is a message of the group 2 from the replica 1 to the replica 0.
func to0(kind int, term int64) api.Msg {
	return api.Msg{Kind: kind, Group: 2, From: 1, To: 0, Term: term}
}

// from0 is a message of the group 2 from the replica 0.
func from0(kind, to int, term int64) api.Msg {
	return api.Msg{Kind: kind, Group: 2, From: 0, To: to, Term: term}
}
