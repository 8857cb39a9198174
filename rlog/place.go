package rlog

import "almoner/api"

// most is the greatest base, and the greatest term.
const most = 1 << 60

// place is what a place of a log is: the base, or an entry.
type place interface {
	term() int64
}

// basePlace is the base: of what was there its term alone is left.
type basePlace struct {
	of int64
}

func (p basePlace) term() int64 {
	return p.of
}

// entryPlace is an entry, and which one of the log's it is.
type entryPlace struct {
	index int
	of    int64
}

func (p entryPlace) term() int64 {
	return p.of
}

// stands answers what is at a place; nil, if that is neither the base nor an entry.
func (g *Log) stands(at int64) place {
	switch {
	case at == g.base:
		return basePlace{g.term}
	case at > g.base && at-g.base <= int64(len(g.entries)):
		index := int(at - g.base - 1)
		return entryPlace{index, g.entries[index].Term}
	}
	return nil
}

// from answers the entries from a place on, in the memory that is kept: none, if it is no entry.
func (g *Log) from(p place) []api.Entry {
	switch p := p.(type) {
	case entryPlace:
		return g.entries[p.index:]
	}
	return nil
}

// behind answers the entries behind a place, in the memory that is kept.
func (g *Log) behind(p place) []api.Entry {
	switch p := p.(type) {
	case basePlace:
		return g.entries
	case entryPlace:
		return g.entries[p.index+1:]
	}
	return nil
}

// canBeBase tells whether a log can begin behind such a base.
func canBeBase(base, term int64) bool {
	if base == 0 {
		return term == 0
	}
	return base > 0 && base <= most && term >= 0 && term <= most
}

// canBeBehind tells whether entries can stand behind a place, one behind the other.
func canBeBehind(ahead place, l []api.Entry) bool {
	least := max(ahead.term(), 1)
	for _, e := range l {
		if e.Term < least || e.Term > most {
			return false
		}
		least = e.Term
	}
	return true
}
