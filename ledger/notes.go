package ledger

import (
	"almoner/api"
	"almoner/history"
)

// byNumber keeps things by numbers; not all of these have one.
type byNumber[T any] map[int]T

// take answers what is kept by a number, and keeps it no more; false, if there is nothing.
func (b byNumber[T]) take(n int) (T, bool) {
	x, is := b[n]
	delete(b, n)
	return x, is
}

// notes is what was asked of a ledger, and what it told.
type notes struct {
	record *history.Record
	open   byNumber[int] // the calls that may yet be told, by their numbers in the cluster: those in the record
	over   bool          // has the record had no room for a call?
}

func newNotes() notes {
	return notes{record: history.New(), open: byNumber[int]{}}
}

// begin notes that a call of the cluster begins. Where the record has no room for it, all that is told from then on stays out, too: it may hang on what the record lacks.
func (x *notes) begin(call int, o api.Op) {
	n := x.record.Begin(o)
	if n < 0 {
		x.over = true
		return
	}
	x.open[call] = n
}

// told notes what a call of the cluster is told, if the record has that call.
func (x *notes) told(t api.Told) {
	n, is := x.open.take(t.Call)
	if is && !x.over {
		x.record.Told(n, t.Reply)
	}
}

// close notes that none of the calls will be told any more.
func (x *notes) close() {
	clear(x.open)
}
