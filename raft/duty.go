package raft

import "almoner/api"

// duty is what is to be done with a message. Each of its kinds is a message whose fields mean what that kind says.
type duty interface {
	// elder tells whether the message is of a term ahead of this one.
	elder(term int64) bool
}

// mail is a message, as each duty has it.
type mail struct {
	api.Msg
}

func (m mail) elder(term int64) bool {
	return m.Term < term
}

// The kinds of duties.
type (
	giveVote   struct{ mail } // the sender would lead
	takeVote   struct{ mail } // the sender would have it lead
	matchLog   struct{ mail } // the sender leads, and has entries for it
	goOn       struct{ mail } // the sender has the log up to a place
	goBack     struct{ mail } // the sender does not have what it was sent behind
	collect    struct{ mail } // the sender leads, and has a piece of a snapshot for it
	sendPieces struct{ mail } // the sender has so much of a snapshot
)

// dutyOf answers what is to be done with a message; nil, if that is nothing.
func dutyOf(m api.Msg) duty {
	x := mail{m}
	switch {
	case m.Kind == api.Vote:
		return giveVote{x}
	case m.Kind == api.VoteTold && m.Ok:
		return takeVote{x}
	case m.Kind == api.Add:
		return matchLog{x}
	case m.Kind == api.AddTold && m.Ok:
		return goOn{x}
	case m.Kind == api.AddTold:
		return goBack{x}
	case m.Kind == api.Snap:
		return collect{x}
	case m.Kind == api.SnapTold:
		return sendPieces{x}
	}
	return nil
}

// Step takes a message that comes; it answers what is to be sent.
func (r *Raft) Step(m api.Msg) []api.Msg {
	if r == nil || !r.isMeant(m) {
		return nil
	}
	if m.Term > r.info.Term {
		r.info.Term, r.info.Voted, r.info.Role, r.info.Leader = m.Term, nobody, api.Follower, nobody
	}
	d := dutyOf(m)
	if d == nil {
		return nil
	}
	if d.elder(r.info.Term) {
		return r.refuse(d)
	}
	return r.do(d)
}

// isMeant tells whether a message comes to this replica from another one of its group, and can be.
func (r *Raft) isMeant(m api.Msg) bool {
	return m.Group == r.group && m.To == r.me &&
		m.From >= 0 && m.From < r.n && m.From != r.me &&
		m.Kind >= api.Vote && m.Kind <= api.SnapTold &&
		m.Term >= 1 && m.Term <= most &&
		isCount(m.Index) && isCount(m.LogTerm) && isCount(m.Commit)
}

// isCount tells whether a number can be a place, a term of a log, or how many bytes there are.
func isCount(n int64) bool {
	return n >= 0 && n <= most
}

// refuse answers what is told of a message of an elder term: its sender is to learn the term.
func (r *Raft) refuse(d duty) []api.Msg {
	switch d := d.(type) {
	case giveVote:
		return r.tellVote(d.From, false)
	case matchLog:
		return r.tellPlace(d.From, false, 0)
	case collect:
		return r.tellPart(d, 0)
	}
	return nil
}

// do does what is to be done with a message of its own term.
func (r *Raft) do(d duty) []api.Msg {
	leads := r.info.Role == api.Leader
	switch d := d.(type) {
	case giveVote:
		return r.giveVote(d)
	case takeVote:
		return r.takeVote(d)
	case matchLog:
		if !leads {
			return r.matchLog(d)
		}
	case goOn:
		if leads {
			return r.goOn(d)
		}
	case goBack:
		if leads {
			return r.goBack(d)
		}
	case collect:
		if !leads {
			return r.collect(d)
		}
	case sendPieces:
		if leads {
			return r.sendPieces(d)
		}
	}
	return nil
}

// The tell functions answer what goes back to the sender of a message.

func (r *Raft) tellVote(to int, agrees bool) []api.Msg {
	m := r.head(api.VoteTold, to)
	m.Ok = agrees
	return []api.Msg{m}
}

// tellPlace tells up to where its log is as the leader's, or, if that is not known, where the leader may look for that.
func (r *Raft) tellPlace(to int, same bool, at int64) []api.Msg {
	m := r.head(api.AddTold, to)
	m.Ok, m.Index = same, at
	return []api.Msg{m}
}

// tellPart tells how many bytes it has of the snapshot of which a piece came.
func (r *Raft) tellPart(d collect, has int) []api.Msg {
	m := r.head(api.SnapTold, d.From)
	m.Index, m.Commit = d.Index, int64(has)
	return []api.Msg{m}
}
