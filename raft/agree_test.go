package raft

import (
	"bytes"
	"fmt"
	"hash/crc32"
	"math"
	"math/rand"
	"testing"

	"almoner/api"
	"almoner/codec"
	"almoner/rlog"
)

// safe is what a machine has on its disk of a replica.
type safe struct {
	term  int64
	voted int
	log   *rlog.Log
	image []byte // the snapshot of the log's base
}

// trial is a group whose messages are lost, doubled and late, and whose replicas start again; it holds what they do against what was agreed on.
type trial struct {
	t       *testing.T
	r       *rand.Rand
	all     []*Raft
	safe    []safe
	flight  []api.Msg
	away    int              // who gets nothing for a while; -1 nobody
	agreed  []string         // what the command at each place is, as the first one did it; at 0 nothing
	leaders map[int64]int    // who led a term
	sums    map[int64]uint32 // of all that is agreed on up to a place
	seen    []Info
	count   map[string]int
}

func newTrial(t *testing.T, seed int64) *trial {
	r := rand.New(rand.NewSource(seed))
	n := 1 + r.Intn(5)
	x := &trial{t: t, r: r, all: make([]*Raft, n), safe: make([]safe, n), seen: make([]Info, n)}
	x.away, x.agreed, x.leaders = -1, []string{""}, map[int64]int{}
	x.sums, x.count = map[int64]uint32{0: 0}, map[string]int{}
	for i := range n {
		x.safe[i] = safe{voted: -1, log: newLog(t, 0, 0, nil)}
		x.start(i)
	}
	return x
}

// start lets a replica begin with what it had.
func (x *trial) start(i int) {
	x.t.Helper()
	s := x.safe[i]
	base, _ := s.log.Base()
	r, why := New(1, i, len(x.all), s.term, s.voted, s.log, base)
	if why != api.OK {
		x.t.Fatalf("New: %d", why)
	}
	if base > 0 {
		if why := r.Snapshot(base, s.image); why != api.OK {
			x.t.Fatalf("Snapshot: %d", why)
		}
	}
	x.all[i], x.seen[i] = r, r.Info()
}

// image is the snapshot of all that is agreed on up to a place: some pieces long, and another one for each.
func (x *trial) image(at int64) []byte {
	return bytes.Repeat(fmt.Appendf(nil, "%d:%d ", at, x.sums[at]), 20+int(at%7)*60)
}

// settle makes safe what a replica has, asks all that must hold of it, and lets what it sends be on its way.
func (x *trial) settle(i int, l []api.Msg) {
	x.t.Helper()
	r, info, was := x.all[i], x.all[i].Info(), x.seen[i]
	if info.Term < was.Term || info.Commit < was.Commit {
		x.t.Fatalf("%+v behind %+v", info, was)
	}
	if info.Term == was.Term && was.Voted != -1 && info.Voted != was.Voted {
		x.t.Fatalf("%+v behind %+v", info, was)
	}
	if at, data, is := r.Installed(); is {
		x.count["installed"]++
		if at > int64(len(x.agreed))-1 || !bytes.Equal(data, x.image(at)) {
			x.t.Fatalf("a snapshot up to %d: %q; want %q", at, data, x.image(at))
		}
		x.safe[i].image, was.Commit = data, at
	}
	x.lead(i, info)
	g := r.Log()
	x.agree(g, was.Commit, info.Commit)
	x.safe[i] = safe{info.Term, info.Voted, g, x.safe[i].image}
	x.seen[i] = info
	x.send(l)
}

// lead asks that a term has one leader.
func (x *trial) lead(i int, info Info) {
	x.t.Helper()
	if info.Role != api.Leader {
		return
	}
	if who, is := x.leaders[info.Term]; is && who != i {
		x.t.Fatalf("%d and %d lead the term %d", who, i, info.Term)
	}
	x.leaders[info.Term] = i
}

// agree asks that what a replica has behind was, up to is, is what any other one had there.
func (x *trial) agree(g *rlog.Log, was, is int64) {
	x.t.Helper()
	for k, e := range g.Part(was+1, int(is-was)) {
		at, cmd := was+1+int64(k), fmt.Sprintf("%d%s", e.Term, e.Cmd)
		switch last := int64(len(x.agreed)) - 1; {
		case at == last+1:
			x.agreed = append(x.agreed, cmd)
			x.sums[at] = crc32.ChecksumIEEE(fmt.Appendf(nil, "%d %s", x.sums[last], cmd))
		case at > last || x.agreed[at] != cmd:
			x.t.Fatalf("at %d of %d: %s, and was %s", at, last, cmd, x.agreed[min(at, last)])
		}
	}
}

// send puts messages on their way, as bytes.
func (x *trial) send(l []api.Msg) {
	x.t.Helper()
	for _, m := range l {
		b, why := codec.Msg(m)
		if why != api.OK {
			x.t.Fatalf("codec.Msg of %s: %d", show(m), why)
		}
		if m, why = codec.Unmsg(b); why != api.OK {
			x.t.Fatalf("codec.Unmsg of %s: %d", show(m), why)
		}
		x.flight = append(x.flight, m)
	}
}

func (x *trial) deliver(k int, keep bool) {
	x.t.Helper()
	m := x.flight[k]
	if !keep {
		x.flight = append(x.flight[:k:k], x.flight[k+1:]...)
	}
	if m.To != x.away {
		x.settle(m.To, x.all[m.To].Step(m))
	}
}

func (x *trial) propose(i int) {
	x.t.Helper()
	last, _ := x.all[i].Log().Last()
	cmd := fmt.Appendf(nil, "p%d", x.r.Intn(1000))
	at, l, why := x.all[i].Propose(cmd)
	leads := x.all[i].Info().Role == api.Leader
	if leads != (why == api.OK) || leads && at != last+1 {
		x.t.Fatalf("Propose: %d, %d, of %+v", at, why, x.all[i].Info())
	}
	x.settle(i, l)
}

func (x *trial) compact(i int) {
	x.t.Helper()
	base, _ := x.all[i].Log().Base()
	at := x.all[i].Info().Commit
	at -= x.r.Int63n(min(3, at-base+1))
	x.safe[i].image = x.image(at)
	if why := x.all[i].Snapshot(at, x.safe[i].image); why != api.OK {
		x.t.Fatalf("Snapshot: %d", why)
	}
	x.settle(i, nil)
}

// step is one that goes wrong in one of many ways.
func (x *trial) step() {
	x.t.Helper()
	i := x.r.Intn(len(x.all))
	switch k := x.r.Intn(100); {
	case k < 20:
		x.settle(i, x.all[i].Tick())
	case k < 24:
		x.all[i].Draw(x.r.Int() - x.r.Int())
	case k < 34:
		x.propose(i)
	case k < 37:
		x.compact(i)
	case k < 38:
		x.start(i)
	case k < 39:
		x.away = x.r.Intn(2*len(x.all)) - len(x.all)
	case len(x.flight) == 0:
	case k < 45:
		k := x.r.Intn(len(x.flight))
		x.flight = append(x.flight[:k:k], x.flight[k+1:]...)
	case k < 49:
		x.deliver(x.r.Intn(len(x.flight)), true)
	case k < 75:
		x.deliver(0, false)
	default:
		x.deliver(x.r.Intn(len(x.flight)), false)
	}
}

// quiet lets rounds pass in which nothing goes wrong.
func (x *trial) quiet(rounds int) {
	x.t.Helper()
	x.away = -1
	for range rounds {
		for i := range x.all {
			x.settle(i, x.all[i].Tick())
		}
		for range 2000 {
			if len(x.flight) == 0 {
				break
			}
			x.deliver(0, false)
		}
	}
}

// wantAllTheSame asks that there is one leader, and that all have what it has, all of it agreed on.
func (x *trial) wantAllTheSame() {
	x.t.Helper()
	term := x.all[0].Info().Term
	leader, is := x.leaders[term]
	if !is || x.all[leader].Info().Role != api.Leader {
		x.t.Fatalf("nobody leads the term %d", term)
	}
	last, _ := x.all[leader].Log().Last()
	for i, r := range x.all {
		if own, _ := r.Log().Last(); own != last || r.Info().Commit != last || r.Info().Leader != leader || r.Info().Term != term {
			x.t.Fatalf("%d: %+v, with %d; the leader is %+v, with %d", i, r.Info(), own, x.all[leader].Info(), last)
		}
	}
}

// P10.5, P10.6 (P8): whatever is lost, doubled and late, and whoever starts again, a term has one leader, and no two agree on other commands; terms and commit never fall. When it is quiet, all have the same.
func TestAgreed(t *testing.T) {
	count, places, terms := map[string]int{}, 0, 0
	for seed := range int64(300) {
		x := newTrial(t, seed)
		for range 2500 {
			x.step()
		}
		for range 3 {
			x.quiet(150)
			x.wantAllTheSame()
			x.propose(x.leaders[x.all[0].Info().Term])
			x.quiet(2)
			x.wantAllTheSame()
			for i := range x.all {
				if x.r.Intn(2) == 0 {
					x.start(i)
				}
			}
		}
		places += len(x.agreed)
		terms += len(x.leaders)
		for what, n := range x.count {
			count[what] += n
		}
	}
	if places < 5000 || terms < 1000 || count["installed"] < 100 {
		t.Errorf("%d places, %d terms with a leader, %v: too few to tell anything", places, terms, count)
	}
}

// junk is a number that may be a term, a place, or out of all bounds.
func junk(r *rand.Rand, near int64) int64 {
	if r.Intn(12) == 0 {
		return []int64{0, -1, great, great + 1, math.MaxInt64, math.MinInt64}[r.Intn(6)]
	}
	return near + int64(r.Intn(7)) - 3
}

// junkMsg is any message to a replica, of numbers near those that it has.
func junkMsg(x *rand.Rand, r *Raft) api.Msg {
	info := r.Info()
	last, of := r.Log().Last()
	m := api.Msg{Kind: x.Intn(8), Group: 1, From: x.Intn(6) - 1, To: 0, Term: info.Term + int64(x.Intn(4)) - 1}
	if x.Intn(3000) == 0 {
		m.Term = junk(x, info.Term)
	}
	m.Index, m.LogTerm, m.Commit, m.Ok = junk(x, last), junk(x, of), junk(x, info.Commit), x.Intn(2) == 0
	if at := last - int64(x.Intn(4)); x.Intn(2) == 0 {
		m.Index = at
		m.LogTerm, _ = r.Log().Term(at)
	}
	term := m.LogTerm
	for range x.Intn(4) {
		term += int64(x.Intn(3)) - int64(x.Intn(8)/7)
		m.Entries = append(m.Entries, api.Entry{Term: term, Cmd: []byte{byte(x.Intn(256))}})
	}
	if m.Kind == api.Snap && x.Intn(2) == 0 {
		m.Commit = int64(x.Intn(3))
		m.Index = last + int64(x.Intn(2))
	}
	m.Data = make([]byte, x.Intn(3))
	if x.Intn(200) == 0 {
		m.Data = make([]byte, 65536)
	}
	return m
}

// P10.6, P1: whatever comes, terms and commit never fall, what is agreed on stays, and the log can be a replica's; nothing panics.
func TestJunk(t *testing.T) {
	seen := map[int]int{}
	for seed := range int64(200) {
		x := rand.New(rand.NewSource(seed))
		n := 1 + x.Intn(5)
		r, _ := New(1, 0, n, 0, -1, newLog(t, 0, 0, nil), 0)
		for range 600 {
			was, log := r.Info(), r.Log()
			var l []api.Msg
			switch x.Intn(12) {
			case 0, 1, 2:
				l = r.Tick()
			case 3:
				_, l, _ = r.Propose(make([]byte, x.Intn(3)))
			case 4:
				r.Snapshot(junk(x, was.Commit), make([]byte, x.Intn(3000)))
			case 5:
				r.Draw(int(junk(x, 0)))
			default:
				l = r.Step(junkMsg(x, r))
			}
			wantRight(t, r, was, log)
			for _, m := range l {
				wantRightMsg(t, m, r, n)
			}
			seen[r.Info().Role]++
		}
	}
	if seen[api.Follower] < 5000 || seen[api.Candidate] < 5000 || seen[api.Leader] < 5000 {
		t.Errorf("too few of a role: %v", seen)
	}
}

// wantRight asks all that must hold of a replica behind any call.
func wantRight(t *testing.T, r *Raft, was Info, log *rlog.Log) {
	t.Helper()
	info, g := r.Info(), r.Log()
	base, _ := g.Base()
	last, term := g.Last()
	if info.Term < was.Term || info.Commit < was.Commit || info.Commit < base || info.Commit > last || term > info.Term {
		t.Fatalf("%+v behind %+v, of a log from %d to %d with the term %d", info, was, base, last, term)
	}
	elder, _ := log.Base()
	for at := max(base, elder) + 1; at <= was.Commit; at++ {
		if a, b := text(g.Part(at, 1)), text(log.Part(at, 1)); a != b {
			t.Fatalf("at %d, which is agreed on: %q, and was %q", at, a, b)
		}
	}
	if info.Role == api.Leader && info.Leader != 0 || info.Role == api.Candidate && info.Leader != -1 || info.Role != api.Follower && info.Voted != 0 {
		t.Fatalf("%+v", info)
	}
}

// wantRightMsg asks all that must hold of a message that is to be sent.
func wantRightMsg(t *testing.T, m api.Msg, r *Raft, n int) {
	t.Helper()
	if m.Group != 1 || m.From != 0 || m.To < 1 || m.To >= n || m.Term != r.Info().Term || m.Kind < 1 || m.Kind > 6 {
		t.Fatalf("it sends %s", show(m))
	}
	if len(m.Entries) > 20 || len(m.Data) > 1000 || m.Index < 0 || m.Commit < 0 || m.LogTerm < 0 || m.LogTerm > m.Term {
		t.Fatalf("it sends %s", show(m))
	}
}
