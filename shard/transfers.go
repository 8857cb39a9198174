package shard

import (
	"math"
	"slices"

	"almoner/api"
	"almoner/book"
)

// mostId is how many bytes an id may have.
const mostId = 80

// addressed tells whether a command can be of a transfer that comes here.
func addressed(c Cmd) bool {
	return c.Id != "" && len(c.Id) <= mostId && book.Name(c.Name)
}

// isDone tells whether a transfer of this id that came here is done.
func (s *Shard) isDone(id string) bool {
	return slices.ContainsFunc(s.done, func(p part) bool { return p.id == id })
}

// partsRoom answers how many more transfers can come here.
func (s *Shard) partsRoom() int {
	return api.MaxKept - len(s.done) - len(s.prepared)
}

// prepare makes sure that a transfer that comes here can be done: its id holds the account.
func (s *Shard) prepare(c Cmd) Result {
	switch by := s.accounts.By(c.Name); {
	case !addressed(c) || c.N < 1:
		return refused(api.ErrArg)
	case !s.serves(c.Name) || s.isDone(c.Id):
		return refused(api.ErrState)
	case by == c.Id:
		return refused(api.OK)
	case s.frozen != 0 || by != "" || s.partsRoom() <= 0:
		return refused(api.ErrRetry)
	}
	has, why := s.accounts.Get(c.Name)
	switch {
	case why != api.OK:
		return refused(why)
	case has > math.MaxInt64-c.N:
		return refused(api.ErrOver)
	}
	s.accounts.Hold(c.Name, c.Id)
	s.await(part{id: c.Id, name: c.Name}, c.N)
	return refused(api.OK)
}

// await makes a part of a transfer be prepared.
func (s *Shard) await(p part, n int64) {
	if s.prepared == nil {
		s.prepared = map[part]int64{}
	}
	s.prepared[p] = n
}

// place answers where a transfer that goes from here stands; -1, if it does not.
func (s *Shard) place(id string) int {
	return slices.IndexFunc(s.transfers, func(t Txn) bool { return t.Id == id })
}

// decide ends the waiting of a transfer that goes from here: it is answered.
func (s *Shard) decide(c Cmd) Result {
	at := s.place(c.Id)
	if at < 0 || s.transfers[at].Done {
		return refused(api.ErrState)
	}
	t := &s.transfers[at]
	t.Done, t.Why = true, c.Why
	s.accounts.Free(t.From, t.Id)
	if t.Why != api.OK {
		s.accounts.Add(t.From, t.N)
	}
	if t.Why == api.ErrRetry {
		return told(t.Why)
	}
	return s.keep(api.Op{Kind: api.Transfer, From: t.From, To: t.To, Amount: t.N, Key: t.Key}, t.Why)
}

// finish does a transfer that was prepared here, or not, as it was decided. One that was not prepared is done, too, so that it never will be.
func (s *Shard) finish(c Cmd) Result {
	p := part{id: c.Id, name: c.Name}
	switch {
	case !addressed(c):
		return refused(api.ErrArg)
	case s.accounts.By(c.Name) == c.Id:
		s.settle(p, c.Why)
	case s.isDone(c.Id):
		return refused(api.OK)
	case c.Why == api.OK || !s.serves(c.Name) || s.partsRoom() <= 0:
		return refused(api.ErrState)
	}
	s.done = append(s.done, p)
	return refused(api.OK)
}

// settle adds what was prepared, if the transfer is to be done, and frees the account.
func (s *Shard) settle(p part, why api.Errno) {
	if why == api.OK {
		s.accounts.Add(p.name, s.prepared[p])
	}
	s.accounts.Free(p.name, p.id)
	delete(s.prepared, p)
}

// end forgets a transfer that went from here.
func (s *Shard) end(c Cmd) Result {
	at := slices.IndexFunc(s.transfers, func(t Txn) bool { return t.Id == c.Id && t.Done })
	if at < 0 {
		return refused(api.ErrState)
	}
	s.transfers = slices.Delete(s.transfers, at, at+1)
	return refused(api.OK)
}
