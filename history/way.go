package history

import (
	"iter"
	"slices"

	"almoner/serial"
)

// stack keeps what is tried next: what was put on it last comes first.
type stack[T any] struct {
	items []T
}

func (s *stack[T]) push(x T) {
	s.items = append(s.items, x)
}

// pop takes the item that comes first; false, if there is none.
func (s *stack[T]) pop() (T, bool) {
	var x T
	last := len(s.items) - 1
	if last < 0 {
		return x, false
	}
	x = s.items[last]
	s.items = s.items[:last]
	return x, true
}

// way is how an order may begin.
type way struct {
	order  []int          // the numbers of the calls that are done
	done   [Most]bool     // which of those that count these are
	ledger *serial.Ledger // as they leave it
}

// first answers the first order of calls; false, if there is none.
func first(calls []numbered) ([]int, bool) {
	var order []int
	is := false
search:
	for w := range ways(calls) {
		for i, c := range calls {
			if c.Told && !w.done[i] {
				continue search
			}
		}
		// The last one was told, as the way was no order without it.
		order, is = w.order, true
		break search
	}
	return order, is
}

// ways goes through all ways that orders may begin: one is ahead of those that go on from it, which are ahead of those that have a greater number at its place.
func ways(calls []numbered) iter.Seq[way] {
	return func(yield func(way) bool) {
		var next stack[way]
		next.push(way{ledger: serial.New()})
		for w, is := next.pop(); is; w, is = next.pop() {
			if !yield(w) {
				return
			}
			for i := range calls {
				if on, can := w.with(calls, len(calls)-1-i); can {
					next.push(on)
				}
			}
		}
	}
}

// with answers the way that goes on with one call more; false, if that can not be done next, or was told something else.
func (w way) with(calls []numbered, i int) (way, bool) {
	c := calls[i]
	if w.done[i] || w.mustWait(calls, c) {
		return way{}, false
	}
	ledger := w.ledger.Copy()
	if r := ledger.Do(c.Op); c.Told && !same(r, c.Reply) {
		return way{}, false
	}
	on := way{order: append(slices.Clone(w.order), c.number), done: w.done, ledger: ledger}
	on.done[i] = true
	return on, true
}

// mustWait tells whether a call that is not done yet is ahead of another one.
func (w way) mustWait(calls []numbered, c numbered) bool {
	for i, other := range calls {
		if !w.done[i] && Ahead(other.Call, c.Call) {
			return true
		}
	}
	return false
}
