package cluster

import (
	"fmt"
	"reflect"

	"almoner/api"
	"almoner/serial"
)

// event is a call of a script: when it began, and when it was told what.
type event struct {
	op         api.Op
	begin, end int // end is 0, if it was not told
	reply      api.Reply
}

// counts tells whether a call plays a part: of one that was told ErrRetry nothing was done.
func (e event) counts() bool {
	return e.end == 0 || e.reply.Why != api.ErrRetry
}

// inOrder tells whether there is an order of calls in which a serial ledger answers just what was told.
func inOrder(l []event) bool {
	var counting []event
	for _, e := range l {
		if e.counts() {
			counting = append(counting, e)
		}
	}
	s := &search{calls: counting, seen: map[string]bool{}}
	return s.from(serial.New(), make([]bool, len(counting)))
}

// search goes through orders of calls.
type search struct {
	calls []event
	seen  map[string]bool
}

// from tells whether the calls that are not done yet can be done in some order behind those that are.
func (s *search) from(ledger *serial.Ledger, done []bool) bool {
	key := fmt.Sprint(done, ledger.Text())
	if s.seen[key] {
		return false
	}
	s.seen[key] = true
	left := false
	for i, e := range s.calls {
		left = left || !done[i] && e.end > 0
	}
	if !left {
		return true
	}
	for i, e := range s.calls {
		if done[i] || !s.mayBeNext(i, done) {
			continue
		}
		next := ledger.Copy()
		r := next.Do(e.op)
		if e.end > 0 && !sameReply(r, e.reply) {
			continue
		}
		done[i] = true
		is := s.from(next, done)
		done[i] = false
		if is {
			return true
		}
	}
	return false
}

// mayBeNext tells whether no other call that is not done yet was told ahead of this one's begin.
func (s *search) mayBeNext(i int, done []bool) bool {
	for j, e := range s.calls {
		if !done[j] && e.end > 0 && e.end < s.calls[i].begin {
			return false
		}
	}
	return true
}

func sameReply(a, b api.Reply) bool {
	if len(a.Rows) == 0 && len(b.Rows) == 0 {
		a.Rows, b.Rows = nil, nil
	}
	return reflect.DeepEqual(a, b)
}
