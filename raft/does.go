package raft

import (
	"almoner/api"
	"almoner/rlog"
)

// giveVote votes for the sender, if it may.
func (r *Raft) giveVote(d giveVote) []api.Msg {
	free := r.info.Voted == nobody || r.info.Voted == d.From
	agrees := free && r.log.Newer(d.Index, d.LogTerm)
	if agrees {
		r.info.Voted, r.elapsed = d.From, 0
	}
	return r.tellVote(d.From, agrees)
}

// takeVote takes the sender's vote; with a majority it leads.
func (r *Raft) takeVote(d takeVote) []api.Msg {
	if r.info.Role != api.Candidate {
		return nil
	}
	r.votes[d.From] = true
	if !r.elected() {
		return nil
	}
	return r.lead()
}

// follow takes the sender as the leader of its term.
func (r *Raft) follow(leader int) {
	r.info.Role, r.info.Leader, r.elapsed = api.Follower, leader, 0
}

// matchLog makes its log have the sender's entries, but changes nothing that is agreed on.
func (r *Raft) matchLog(d matchLog) []api.Msg {
	r.follow(d.From)
	log := r.log.Copy()
	upTo, from, why := log.Match(d.Index, d.LogTerm, d.Entries)
	if d.hasNewer() || why != api.OK || from > 0 && from <= r.info.Commit {
		last, _ := r.log.Last()
		return r.tellPlace(d.From, false, min(max(d.Index-1, 0), last))
	}
	r.log = log
	r.info.Commit = max(r.info.Commit, min(d.Commit, upTo))
	return r.tellPlace(d.From, true, upTo)
}

// hasNewer tells whether an entry has a term that its sender can not know of.
func (d matchLog) hasNewer() bool {
	for _, e := range d.Entries {
		if e.Term > d.Term {
			return true
		}
	}
	return false
}

// goOn learns that the sender has the log up to a place, and sends what is behind it.
func (r *Raft) goOn(d goOn) []api.Msg {
	last, _ := r.log.Last()
	if d.Index > last {
		return nil
	}
	o := &r.others[d.From]
	o.match = max(o.match, d.Index)
	o.next = o.match + 1
	r.count()
	if o.next > last {
		return nil
	}
	return r.send(d.From)
}

// goBack sends from an earlier place on.
func (r *Raft) goBack(d goBack) []api.Msg {
	o := &r.others[d.From]
	o.next = max(min(o.next-1, d.Index+1), o.match+1)
	return r.send(d.From)
}

// collect puts a piece behind those of the same snapshot that came ahead of it.
func (r *Raft) collect(d collect) []api.Msg {
	r.follow(d.From)
	if d.Index <= r.info.Commit {
		return r.tellPlace(d.From, true, r.info.Commit)
	}
	if d.Commit == 0 {
		r.collected = &snapshot{at: d.Index, term: d.LogTerm}
	}
	s := r.collected
	if s == nil || s.at != d.Index || s.term != d.LogTerm {
		return r.tellPart(d, 0)
	}
	if d.Commit != int64(len(s.data)) {
		return r.tellPart(d, len(s.data))
	}
	if len(s.data)+len(d.Data) > api.MaxBytes {
		r.collected = nil
		return r.tellPart(d, 0)
	}
	s.data = append(s.data, d.Data...)
	if !d.Ok {
		return r.tellPart(d, len(s.data))
	}
	return r.install(d)
}

// install takes the snapshot that is collected as its own, and lets the log begin behind it.
func (r *Raft) install(d collect) []api.Msg {
	s := r.collected
	r.collected = nil
	if s.term > d.Term || r.beginBehind(s) != api.OK {
		return r.tellPart(d, 0)
	}
	r.info.Commit = s.at
	r.snapshot, r.installed = s, s
	return r.tellPlace(d.From, true, s.at)
}

// beginBehind makes a snapshot's place the base of the log. What stands behind it may stay, if the log has that place as the snapshot does.
func (r *Raft) beginBehind(s *snapshot) api.Errno {
	if term, why := r.log.Term(s.at); why == api.OK && term == s.term {
		return r.log.Compact(s.at)
	}
	log, why := rlog.New(s.at, s.term, nil)
	if why == api.OK {
		r.log = log
	}
	return why
}

// sendPieces learns how much of its snapshot the sender has, and sends what is behind that.
func (r *Raft) sendPieces(d sendPieces) []api.Msg {
	if r.snapshot == nil || r.snapshot.at != d.Index {
		return nil
	}
	r.others[d.From].part = int(min(d.Commit, int64(len(r.snapshot.data))))
	return r.send(d.From)
}
