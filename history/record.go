package history

import (
	"slices"

	"almoner/api"
)

// Record keeps calls as they begin and are told; its time goes on with each of these.
type Record struct {
	time  int
	calls []Call
}

// New answers a record of no calls.
func New() *Record {
	return &Record{}
}

// Begin keeps a call that begins now, and answers its number; -1, if there can be no more.
func (r *Record) Begin(o api.Op) int {
	if r == nil || len(r.calls) >= api.MaxScript {
		return -1
	}
	r.time++
	r.calls = append(r.calls, Call{Op: o, Begin: r.time})
	return len(r.calls) - 1
}

// Told keeps what a call is told now; false, if there is no such call, or it was told.
func (r *Record) Told(n int, p api.Reply) bool {
	if r == nil || n < 0 || n >= len(r.calls) || r.calls[n].Told {
		return false
	}
	r.time++
	c := &r.calls[n]
	c.Told, c.End, c.Reply = true, r.time, own(p)
	return true
}

// Calls answers all calls.
func (r *Record) Calls() []Call {
	if r == nil {
		return nil
	}
	l := slices.Clone(r.calls)
	for i := range l {
		l[i].Reply = own(l[i].Reply)
	}
	return l
}

// own answers an answer in memory of its own.
func own(p api.Reply) api.Reply {
	p.Rows = slices.Clone(p.Rows)
	return p
}
