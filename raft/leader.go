package raft

import (
	"slices"

	"almoner/api"
)

// other is what a leader knows of another replica.
type other struct {
	next  int64 // the place that it is to get next
	match int64 // up to where its log is known to be the same
	part  int   // how many bytes of a snapshot it has
}

// head answers a message to another replica, with all that every message has.
func (r *Raft) head(kind, to int) api.Msg {
	return api.Msg{Kind: kind, Group: r.group, From: r.me, To: to, Term: r.info.Term}
}

// toOthers answers what is made for each other replica, rising.
func (r *Raft) toOthers(of func(to int) []api.Msg) []api.Msg {
	var l []api.Msg
	for to := range r.n {
		if to != r.me {
			l = append(l, of(to)...)
		}
	}
	return l
}

// elect begins an election.
func (r *Raft) elect() []api.Msg {
	r.info.Term++
	r.info.Role, r.info.Voted, r.info.Leader = api.Candidate, r.me, nobody
	r.elapsed, r.timeout = 0, r.nextTimeout()
	r.votes = [api.MaxNodes]bool{}
	r.votes[r.me] = true
	if r.elected() {
		return r.lead()
	}
	return r.toOthers(r.askVote)
}

func (r *Raft) askVote(to int) []api.Msg {
	m := r.head(api.Vote, to)
	m.Index, m.LogTerm = r.log.Last()
	return []api.Msg{m}
}

// elected tells whether a majority votes for it.
func (r *Raft) elected() bool {
	count := 0
	for _, is := range r.votes {
		if is {
			count++
		}
	}
	return count > r.n/2
}

// lead makes it the leader of its term.
func (r *Raft) lead() []api.Msg {
	r.info.Role, r.info.Leader = api.Leader, r.me
	last, _ := r.log.Last()
	for i := range r.others {
		r.others[i] = other{next: last + 1}
	}
	// What elder terms have left is agreed on only together with an entry of this one. In a full log there is none, and it leads even so.
	r.log.Append(api.Entry{Term: r.info.Term})
	r.count()
	return r.sendAll()
}

// count moves commit on to the greatest place of its own term that a majority has.
func (r *Raft) count() {
	last, _ := r.log.Last()
	has := []int64{last}
	for i := range r.n {
		if i != r.me {
			has = append(has, r.others[i].match)
		}
	}
	slices.Sort(has)
	at := has[(len(has)-1)/2]
	// No entry has a term above its own, and terms do not fall: if this one's is another, so are all ahead of it.
	if term, why := r.log.Term(at); why == api.OK && term == r.info.Term && at > r.info.Commit {
		r.info.Commit = at
	}
}

// sendAll answers what it sends to each other one.
func (r *Raft) sendAll() []api.Msg {
	return r.toOthers(r.send)
}

// send answers what it sends to one: entries, or, if they are gone, a piece of the snapshot.
func (r *Raft) send(to int) []api.Msg {
	base, _ := r.log.Base()
	switch {
	case r.others[to].next > base:
		return []api.Msg{r.entriesTo(to)}
	case r.snapshot != nil:
		return []api.Msg{r.pieceTo(to)}
	}
	return nil
}

func (r *Raft) entriesTo(to int) api.Msg {
	next := r.others[to].next
	m := r.head(api.Add, to)
	m.Index, m.Commit = next-1, r.info.Commit
	m.LogTerm, _ = r.log.Term(next - 1)
	m.Entries = r.log.Part(next, MostParts)
	return m
}

func (r *Raft) pieceTo(to int) api.Msg {
	s, part := r.snapshot, r.others[to].part
	end := min(part+Piece, len(s.data))
	m := r.head(api.Snap, to)
	m.Index, m.LogTerm, m.Commit = s.at, s.term, int64(part)
	m.Data, m.Ok = slices.Clone(s.data[part:end]), end == len(s.data)
	return m
}
