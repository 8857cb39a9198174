package serial

import (
	"cmp"
	"strings"

	"almoner/api"
)

// request is what an answer is kept for.
type request struct {
	from, key string
}

// compare answers which of two requests is told first: below 0, the first one.
func compare(a, b request) int {
	return cmp.Or(strings.Compare(a.from, b.from), strings.Compare(a.key, b.key))
}

// answer is an answer that is kept, and the operation that it was given to.
type answer struct {
	op  api.Op
	why api.Errno
}

// to answers an operation for whose From and Key this is kept.
func (k answer) to(o api.Op) api.Errno {
	if k.op != essence(o) {
		return api.ErrKey
	}
	return k.why
}

// essence answers an operation with a key without what plays no part in it: where two differ in that alone, they are one.
func essence(o api.Op) api.Op {
	e := api.Op{Kind: o.Kind, From: o.From, Key: o.Key}
	if o.Kind != api.Open {
		e.Amount = o.Amount
	}
	if o.Kind == api.Transfer {
		e.To = o.To
	}
	return e
}
