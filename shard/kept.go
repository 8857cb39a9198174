package shard

import (
	"cmp"
	"strings"

	"almoner/api"
	"almoner/book"
)

// request is what an answer is kept for.
type request struct {
	from, key string
}

// answer is an answer that is kept, and the operation that it was given to.
type answer struct {
	op  api.Op
	why api.Errno
}

// asked answers what an operation's answer is kept for.
func asked(o api.Op) request {
	return request{from: o.From, key: o.Key}
}

// compareAnswers answers which of two kept answers stands first: below 0, the first one.
func compareAnswers(a, b answer) int {
	return cmp.Or(strings.Compare(a.op.From, b.op.From), strings.Compare(a.op.Key, b.op.Key))
}

// to answers an operation for whose From and Key this is kept.
func (k answer) to(o api.Op) api.Errno {
	if k.op != essence(o) {
		return api.ErrKey
	}
	return k.why
}

// essence answers an operation with a key without what plays no part in it: where two differ in that alone, they are one.
func essence(o api.Op) api.Op {
	e := api.Op{Kind: o.Kind, From: o.From, Key: o.Key}
	if o.Kind != api.Open {
		e.Amount = o.Amount
	}
	if o.Kind == api.Transfer {
		e.To = o.To
	}
	return e
}

// canBeKept tells whether a shard could have kept this.
func (k answer) canBeKept() bool {
	switch {
	case k.op.Kind < api.Open || k.op.Kind > api.Transfer, k.op != essence(k.op), k.why == api.ErrRetry:
		return false
	case k.op.Kind == api.Transfer:
		// A shard that was loaded may have a transfer of any texts, and keeps the answer to it when it is decided.
		return k.op.Amount >= 1
	}
	return book.Wrong(k.op) == api.OK
}

// put keeps an answer.
func (s *Shard) put(k answer) {
	if s.kept == nil {
		s.kept = map[request]answer{}
	}
	s.kept[asked(k.op)] = k
}

// keep keeps what an operation is answered, and answers it.
func (s *Shard) keep(o api.Op, why api.Errno) Result {
	s.put(answer{op: essence(o), why: why})
	return told(why)
}

// room answers how many more answers can be kept: a transfer that began has one to come.
func (s *Shard) room() int {
	return api.MaxKept - len(s.kept) - len(s.transfers)
}
