package ledger

import (
	"iter"
	"math"

	"almoner/api"
)

// Do asks one machine after another for an operation, until one of them answers it.
func (l *Ledger) Do(o api.Op) api.Reply {
	if l.isNone() {
		return api.Reply{Why: api.ErrNil}
	}
	reply := api.Reply{Why: api.ErrRetry}
	first := l.cluster.Calls() // All calls from this one on ask for o.
asking:
	for machine := range l.turns() {
		l.step(api.Event{Kind: api.EvCall, Node: machine, Op: o})
		for _, x := range l.round() {
			if x.Call >= first && x.Reply.Why != api.ErrRetry {
				reply = x.Reply
				break asking
			}
		}
	}
	return reply
}

// turns goes through the machines that are asked, one in each of as many rounds as are enough.
func (l *Ledger) turns() iter.Seq[int] {
	return func(yield func(int) bool) {
		for k := range l.Bound() {
			if !yield(k % l.cluster.Nodes()) {
				return
			}
		}
	}
}

// Sum answers what all accounts have together.
func (l *Ledger) Sum() (int64, api.Errno) {
	r := l.Do(api.Op{Kind: api.Audit})
	if r.Why != api.OK {
		return 0, r.Why
	}
	sum := int64(0)
	for _, row := range r.Rows {
		if row.Amount > math.MaxInt64-sum {
			return 0, api.ErrOver
		}
		sum += row.Amount
	}
	return sum, api.OK
}
