package rlog

import "almoner/api"

// Match makes the log have these entries behind a place, if it has that place with that term. It answers the place up to which the log has them, and the one from which on it changed.
func (g *Log) Match(at, term int64, l []api.Entry) (int64, int64, api.Errno) {
	switch {
	case g == nil:
		return 0, 0, api.ErrNil
	case at < 0 || term < 0:
		return 0, 0, api.ErrArg
	}
	from, left, why := g.meet(at, term, l)
	if why != api.OK {
		return 0, 0, why
	}
	end := at + int64(len(l))
	from, left = g.passOver(from, left)
	if len(left) == 0 {
		return end, 0, api.OK
	}
	if why := g.put(int(from-g.base-1), left); why != api.OK {
		return 0, 0, why
	}
	return end, from, api.OK
}

// meet answers the place of the log behind which entries are to be held against its own, and which of them: what is up to the base is gone, and can not be asked any more.
func (g *Log) meet(at, term int64, l []api.Entry) (int64, []api.Entry, api.Errno) {
	if at < g.base {
		gone := g.base - at
		if gone > int64(len(l)) {
			return 0, nil, api.ErrState
		}
		return g.base, l[gone:], api.OK
	}
	if p := g.stands(at); p == nil || p.term() != term {
		return 0, nil, api.ErrState
	}
	return at, l, api.OK
}

// passOver answers the first place behind at where the log does not have an entry of l with its term, and what is left of l from there on.
func (g *Log) passOver(at int64, l []api.Entry) (int64, []api.Entry) {
	for i, e := range l {
		at++
		if p := g.stands(at); p == nil || p.term() != e.Term {
			return at, l[i:]
		}
	}
	return at, nil
}
