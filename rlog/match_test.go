package rlog

import (
	"math"
	"math/rand"
	"slices"
	"testing"

	"almoner/api"
)

// P9.3: Match of a log of the base 3 with the term 1, at and beyond all its edges; refused, it changes nothing.
func TestMatch(t *testing.T) {
	for _, c := range []struct {
		at, term   int64
		l          string
		upTo, from int64
		why        api.Errno
		want       string
	}{
		{6, 3, "", 6, 0, api.OK, "2a 2b 3c"},
		{6, 3, "3d 4e", 8, 7, api.OK, "2a 2b 3c 3d 4e"},
		{5, 2, "3x", 6, 0, api.OK, "2a 2b 3c"},
		{5, 2, "3x 3d", 7, 7, api.OK, "2a 2b 3c 3d"},
		{5, 2, "4x", 6, 6, api.OK, "2a 2b 4x"},
		{5, 2, "2x", 6, 6, api.OK, "2a 2b 2x"},
		{4, 2, "2x", 5, 0, api.OK, "2a 2b 3c"},
		{4, 2, "3x", 5, 5, api.OK, "2a 3x"},
		{4, 2, "3x 3y 3z", 7, 5, api.OK, "2a 3x 3y 3z"},
		{3, 1, "", 3, 0, api.OK, "2a 2b 3c"},
		{3, 1, "2x 2y 3z", 6, 0, api.OK, "2a 2b 3c"},
		{3, 1, "1x", 4, 4, api.OK, "1x"},
		{3, 1, "1x 2b 3c", 6, 4, api.OK, "1x 2b 3c"},

		{6, 2, "", 0, 0, api.ErrState, ""},
		{5, 3, "3c", 0, 0, api.ErrState, ""},
		{3, 0, "2a", 0, 0, api.ErrState, ""},
		{3, 2, "2a", 0, 0, api.ErrState, ""},
		{7, 3, "", 0, 0, api.ErrState, ""},
		{7, 0, "", 0, 0, api.ErrState, ""},
		{math.MaxInt64, 3, "3d", 0, 0, api.ErrState, ""},
		{6, math.MaxInt64, "3d", 0, 0, api.ErrState, ""},

		{-1, 1, "", 0, 0, api.ErrArg, ""},
		{math.MinInt64, 1, "", 0, 0, api.ErrArg, ""},
		{3, -1, "", 0, 0, api.ErrArg, ""},
		{0, -1, "1 1 1", 0, 0, api.ErrArg, ""},
		{7, math.MinInt64, "", 0, 0, api.ErrArg, ""},

		{6, 3, "2d", 0, 0, api.ErrArg, ""},
		{5, 2, "1d", 0, 0, api.ErrArg, ""},
		{3, 1, "0d", 0, 0, api.ErrArg, ""},
		{5, 2, "4d 3e", 0, 0, api.ErrArg, ""},
		{5, 2, "3c 1152921504606846977d", 0, 0, api.ErrArg, ""},

		{2, 1, "1w", 3, 0, api.OK, "2a 2b 3c"},
		{2, 9, "9w 2x", 4, 0, api.OK, "2a 2b 3c"},
		{2, 0, "0w 2x 4y", 5, 5, api.OK, "2a 4y"},
		{0, 0, "1u 1v 1w", 3, 0, api.OK, "2a 2b 3c"},
		{0, 0, "1u 1v 1w 2x 2y 3z 3d", 7, 7, api.OK, "2a 2b 3c 3d"},
		{0, 0, "7u -1v 0w 1x", 4, 4, api.OK, "1x"},
		{2, 1, "", 0, 0, api.ErrState, ""},
		{0, 0, "1u 1v", 0, 0, api.ErrState, ""},
		{0, 0, "1u 1v 1w 0x", 0, 0, api.ErrArg, ""},
	} {
		g := mustNew(t, 3, 1, entries("2a 2b 3c"))
		upTo, from, why := g.Match(c.at, c.term, entries(c.l))
		if upTo != c.upTo || from != c.from || why != c.why {
			t.Errorf("Match(%d, %d, %s): %d, %d, %d; want %d, %d, %d", c.at, c.term, c.l, upTo, from, why, c.upTo, c.from, c.why)
		}
		if c.why != api.OK {
			c.want = "2a 2b 3c"
		}
		wantLog(t, g, 3, 1, c.want)
	}
}

// P9.3: a Match for which there is no room changes nothing; what it makes go makes room.
func TestMatchFull(t *testing.T) {
	g := mustNew(t, 1, 1, many(4095, 1))
	for _, term := range []int64{0, 2} {
		if upTo, from, why := g.Match(4096, 1, many(2, term)); upTo != 0 || from != 0 || why != api.ErrFull {
			t.Errorf("Match of one too many: %d, %d, %d", upTo, from, why)
		}
		if upTo, from, why := g.Match(1, 1, many(4097, term)); upTo != 0 || from != 0 || why != api.ErrFull {
			t.Errorf("Match of one too many: %d, %d, %d", upTo, from, why)
		}
	}
	if last, term := g.Last(); last != 4096 || term != 1 {
		t.Errorf("Last: %d, %d", last, term)
	}
	if upTo, from, why := g.Match(4096, 1, many(1, 2)); upTo != 4097 || from != 4097 || why != api.OK {
		t.Errorf("Match: %d, %d, %d", upTo, from, why)
	}
	if upTo, from, why := g.Match(4000, 1, many(97, 1)); upTo != 4097 || from != 4097 || why != api.OK {
		t.Errorf("Match: %d, %d, %d", upTo, from, why)
	}
	// More than a log holds may be handed in: what stands below the base already is passed over.
	g.Compact(4097)
	if upTo, from, why := g.Match(0, 0, many(4097+4096, 1)); upTo != 8193 || from != 4098 || why != api.OK || g.Len() != 4096 {
		t.Errorf("Match: %d, %d, %d, Len %d", upTo, from, why, g.Len())
	}
}

// randomLog is a log of a few entries, of terms that rise.
func randomLog(t *testing.T, r *rand.Rand, base, term int64, most int) *Log {
	l := make([]api.Entry, r.Intn(most+1))
	for i := range l {
		term = max(1, term+int64(r.Intn(4)/3))
		l[i] = api.Entry{Term: term, Cmd: []byte{byte('a' + r.Intn(26))}}
	}
	return mustNew(t, base, first(base, l, term), l)
}

// first is a term that a base may have ahead of entries.
func first(base int64, l []api.Entry, term int64) int64 {
	switch {
	case base == 0:
		return 0
	case len(l) > 0:
		return l[0].Term
	}
	return term
}

// P9.5: Match of what stands changes nothing; done twice it is as once.
func TestMatchTwice(t *testing.T) {
	changed := 0
	for seed := range int64(3000) {
		r := rand.New(rand.NewSource(seed))
		g := randomLog(t, r, int64(r.Intn(4)), 1, 8)
		base, _ := g.Base()
		last, _ := g.Last()
		at := base + r.Int63n(last-base+1)
		term, _ := g.Term(at)
		was := told(g)
		if upTo, from, why := g.Match(at, term, g.Part(at+1, r.Intn(9))); upTo < at || from != 0 || why != api.OK || told(g) != was {
			t.Fatalf("Match of what stands: %d, %d, %d: %s, and was %s", upTo, from, why, told(g), was)
		}
		l := randomLog(t, r, 0, term, 8).Part(1, 9)
		upTo, from, why := g.Match(at, term, l)
		if why != api.OK || upTo != at+int64(len(l)) {
			t.Fatalf("Match(%d, %d, %s): %d, %d, %d", at, term, text(l), upTo, from, why)
		}
		if from > 0 {
			changed++
		}
		is := told(g)
		if again, from, why := g.Match(at, term, l); again != upTo || from != 0 || why != api.OK || told(g) != is {
			t.Fatalf("Match once more: %d, %d, %d: %s, and was %s", again, from, why, told(g), is)
		}
	}
	if changed < 500 {
		t.Errorf("%d of them changed something", changed)
	}
}

// leaders is for each term the log of its leader: that of an elder leader up to some place, and entries of its own.
func leaders(t *testing.T, r *rand.Rand, terms int) []*Log {
	all := []*Log{mustNew(t, 0, 0, nil)}
	for term := 1; term <= terms; term++ {
		g := all[r.Intn(len(all))].Copy()
		last, _ := g.Last()
		g.Cut(1 + r.Int63n(last+1))
		for range 1 + r.Intn(4) {
			if why := g.Append(api.Entry{Term: int64(term), Cmd: []byte{byte('a' + r.Intn(26))}}); why != api.OK {
				t.Fatalf("Append: %d", why)
			}
		}
		all = append(all, g)
	}
	return all
}

// P9.6: a log that is matched with a part of another one, behind a place where both have the same term, has what the other one has up to the place that is told; also if what is the same is partly gone.
func TestMatchMakesTheSame(t *testing.T) {
	matched := 0
	for seed := range int64(4000) {
		r := rand.New(rand.NewSource(seed))
		all := leaders(t, r, 6)
		from, g := all[r.Intn(len(all))], all[r.Intn(len(all))].Copy()
		last, _ := from.Last()
		at := r.Int63n(last + 1)
		term, _ := from.Term(at)
		if own, why := g.Term(at); why != api.OK || own != term {
			if _, _, why := g.Match(at, term, from.Part(at+1, 3)); why != api.ErrState {
				t.Fatalf("Match behind a place that is not the same: %d", why)
			}
			continue
		}
		same := at
		for same < last && text(from.Part(same+1, 1)) == text(g.Part(same+1, 1)) {
			same++
		}
		g.Compact(r.Int63n(same + 1))
		base, _ := g.Base()
		l := from.Part(at+1, r.Intn(9))
		upTo, _, why := g.Match(at, term, l)
		if at+int64(len(l)) < base {
			if why != api.ErrState {
				t.Fatalf("Match of what is gone: %d", why)
			}
			continue
		}
		if why != api.OK || upTo != at+int64(len(l)) {
			t.Fatalf("Match(%d, %d, %s): %d, %d", at, term, text(l), upTo, why)
		}
		if is, want := g.Part(base+1, int(upTo-base)), from.Part(base+1, int(upTo-base)); text(is) != text(want) {
			t.Fatalf("up to %d: %s; the other one has %s", upTo, text(is), text(want))
		}
		matched++
	}
	if matched < 1000 {
		t.Errorf("%d were matched", matched)
	}
}

// P9.7: Compact changes no Term from its place on, and no Part behind it.
func TestCompactChangesNothingBehind(t *testing.T) {
	for seed := range int64(1000) {
		r := rand.New(rand.NewSource(seed))
		g := randomLog(t, r, int64(r.Intn(4)), 1, 10)
		was := g.Copy()
		for range 3 {
			base, _ := g.Base()
			last, _ := g.Last()
			at := base + r.Int63n(last-base+1)
			if why := g.Compact(at); why != api.OK {
				t.Fatalf("Compact(%d): %d", at, why)
			}
			if now, _ := g.Base(); now != at {
				t.Fatalf("Base: %d, want %d", now, at)
			}
			for i := at; i <= last; i++ {
				term, _ := was.Term(i)
				wantTerm(t, g, i, term)
				most := r.Intn(12)
				if got, want := g.Part(i+1, most), was.Part(i+1, most); text(got) != text(want) {
					t.Fatalf("Part(%d, %d): %s, and was %s", i+1, most, text(got), text(want))
				}
			}
		}
	}
}

// plain is a log as a plain list: what is gone stands in it still.
type plain struct {
	base int64
	all  []api.Entry // that of the place i at i; at 0 an entry of the term 0
}

// canPut tells what is to be answered where l stands from the place at on.
func (p *plain) canPut(at int64, l []api.Entry) api.Errno {
	if int(at-1-p.base)+len(l) > api.MaxLog {
		return api.ErrFull
	}
	for _, e := range l {
		if e.Term < 1 || e.Term < p.all[at-1].Term {
			return api.ErrArg
		}
	}
	if !slices.IsSortedFunc(l, func(a, b api.Entry) int { return int(a.Term - b.Term) }) {
		return api.ErrArg
	}
	return api.OK
}

func (p *plain) put(at int64, l []api.Entry) api.Errno {
	why := p.canPut(at, l)
	if why == api.OK {
		p.all = append(p.all[:at:at], l...)
	}
	return why
}

func (p *plain) match(at, term int64, l []api.Entry) (int64, int64, api.Errno) {
	last := int64(len(p.all)) - 1
	if at < 0 || term < 0 {
		return 0, 0, api.ErrArg
	}
	if at > last || at >= p.base && p.all[at].Term != term || at < p.base && at+int64(len(l)) < p.base {
		return 0, 0, api.ErrState
	}
	for i, e := range l {
		here := at + 1 + int64(i)
		if here <= p.base || here <= last && p.all[here].Term == e.Term {
			continue
		}
		if why := p.put(here, l[i:]); why != api.OK {
			return 0, 0, why
		}
		return at + int64(len(l)), here, api.OK
	}
	return at + int64(len(l)), 0, api.OK
}

// P9.1-P9.4: scripts, held against a plain list.
func TestScripts(t *testing.T) {
	for seed := range int64(300) {
		r := rand.New(rand.NewSource(seed))
		g, p := mustNew(t, 0, 0, nil), &plain{all: make([]api.Entry, 1)}
		for range 120 {
			last := int64(len(p.all)) - 1
			at := p.base - 2 + r.Int63n(last-p.base+5)
			is := at >= p.base && at <= last
			term := p.all[last].Term + int64(r.Intn(3)) - 1 + int64(r.Intn(2))
			l := make([]api.Entry, r.Intn(4))
			for i := range l {
				l[i] = api.Entry{Term: term, Cmd: []byte{byte('a' + r.Intn(26))}}
				term += int64(r.Intn(8)/6) - int64(r.Intn(12)/11)
			}
			var got, want api.Errno
			switch r.Intn(7) {
			case 0, 1:
				got, want = g.Append(l...), p.put(last+1, l)
			case 2:
				if got, want = g.Cut(at), api.ErrArg; at > p.base && at <= last+1 {
					p.all, want = p.all[:at], api.OK
				}
			case 3:
				if r.Intn(3) > 0 {
					break
				}
				if got, want = g.Compact(at), api.ErrArg; is {
					p.base, want = at, api.OK
				}
			default:
				of := int64(r.Intn(4)) - 1
				if is && r.Intn(5) > 0 {
					of = p.all[at].Term
				}
				if r.Intn(2) == 0 && at >= 0 && at < last {
					l = append(slices.Clone(p.all[at+1:min(at+3, last+1)]), l...)
				}
				a, b, why := g.Match(at, of, l)
				c, d, whyNot := p.match(at, of, l)
				if got, want = why, whyNot; a != c || b != d {
					t.Fatalf("Match(%d, %d, %s): %d, %d; want %d, %d", at, of, text(l), a, b, c, d)
				}
			}
			if got != want {
				t.Fatalf("%d, want %d", got, want)
			}
			wantLog(t, g, p.base, p.all[p.base].Term, text(p.all[p.base+1:]))
		}
	}
}
