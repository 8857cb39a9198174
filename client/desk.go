package client

import (
	"iter"
	"slices"

	"almoner/api"
)

// Desk is the calls of clients, and their answers.
type Desk struct {
	calls []call
}

// call is an operation that a client asked for, and its answer, if it was heard.
type call struct {
	op    api.Op
	heard bool
	reply api.Reply
}

// New answers a desk without calls.
func New() *Desk {
	return &Desk{}
}

// Begin keeps one call more, and answers its number; -1, if there can be no more.
func (d *Desk) Begin(o api.Op) int {
	if d == nil || len(d.calls) >= api.MaxScript {
		return -1
	}
	d.calls = append(d.calls, call{op: o})
	return len(d.calls) - 1
}

// has tells whether there is a call of that number.
func (d *Desk) has(n int) bool {
	return d != nil && n >= 0 && n < len(d.calls)
}

// Hear takes the answer to a call, if it is the first one, and tells whether it is.
func (d *Desk) Hear(n int, r api.Reply) bool {
	if !d.has(n) || d.calls[n].heard {
		return false
	}
	d.calls[n].heard, d.calls[n].reply = true, own(r)
	return true
}

// own answers an answer in memory of its own.
func own(r api.Reply) api.Reply {
	r.Rows = slices.Clone(r.Rows)
	return r
}

// Get answers a call's operation, its answer, and whether it has one.
func (d *Desk) Get(n int) (api.Op, api.Reply, bool) {
	if !d.has(n) {
		return api.Op{}, api.Reply{}, false
	}
	c := d.calls[n]
	return c.op, own(c.reply), c.heard
}

// Open goes through the calls without an answer, as they are when it is called.
func (d *Desk) Open() iter.Seq2[int, api.Op] {
	if d == nil {
		return func(func(int, api.Op) bool) {}
	}
	calls := slices.Clone(d.calls)
	return func(yield func(int, api.Op) bool) {
		for n, c := range calls {
			if !c.heard && !yield(n, c.op) {
				return
			}
		}
	}
}

// Len answers how many calls there are.
func (d *Desk) Len() int {
	if d == nil {
		return 0
	}
	return len(d.calls)
}
