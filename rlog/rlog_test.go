package rlog

import (
	"math"
	"testing"

	"almoner/api"
)

// P9.1-P9.3: the chapter's example.
func TestExample(t *testing.T) {
	g := mustNew(t, 0, 0, entries("1 1 2"))
	if at, term := g.Last(); at != 3 || term != 2 {
		t.Errorf("Last: %d, %d", at, term)
	}
	if upTo, from, why := g.Match(2, 1, entries("3")); upTo != 3 || from != 3 || why != api.OK {
		t.Errorf("Match: %d, %d, %d", upTo, from, why)
	}
	wantTerm(t, g, 3, 3)
	if why := g.Compact(2); why != api.OK {
		t.Errorf("Compact: %d", why)
	}
	wantLog(t, g, 2, 1, "3")
	if upTo, from, why := g.Match(0, 0, entries("1 1 3")); upTo != 3 || from != 0 || why != api.OK {
		t.Errorf("Match: %d, %d, %d", upTo, from, why)
	}
	wantLog(t, g, 2, 1, "3")
}

// P9.1-P9.4, P1: calls of nil.
func TestNil(t *testing.T) {
	var g *Log
	for _, at := range []int64{math.MinInt64, -1, 0, 1, math.MaxInt64} {
		if term, why := g.Term(at); term != 0 || why != api.ErrNil {
			t.Errorf("Term: %d, %d", term, why)
		}
		if upTo, from, why := g.Match(at, at, entries("1")); upTo != 0 || from != 0 || why != api.ErrNil {
			t.Errorf("Match: %d, %d, %d", upTo, from, why)
		}
		if g.Cut(at) != api.ErrNil || g.Compact(at) != api.ErrNil {
			t.Error("Cut, Compact")
		}
		if g.Part(at, 9) != nil || g.Newer(at, at) {
			t.Error("Part, Newer")
		}
	}
	if g.Append() != api.ErrNil || g.Append(many(4097, 0)...) != api.ErrNil {
		t.Error("Append")
	}
	base, term := g.Base()
	last, of := g.Last()
	if base != 0 || term != 0 || last != 0 || of != 0 || g.Len() != 0 || g.Copy() != nil {
		t.Error("Base, Last, Len, Copy")
	}
	for range g.Each() {
		t.Error("Each")
	}
	wantLog(t, &Log{}, 0, 0, "")
}

// P9.1: which logs can be.
func TestNew(t *testing.T) {
	for _, c := range []struct {
		base, term int64
		l          string
		why        api.Errno
	}{
		{0, 0, "", api.OK},
		{0, 0, "1a 1b 2c 7d", api.OK},
		{5, 0, "", api.OK},
		{5, 0, "1a", api.OK},
		{5, 3, "3a 3b 4c", api.OK},
		{great, great, "1152921504606846976a 1152921504606846976b", api.OK},
		{great, 0, "1a", api.OK},
		{1, great, "", api.OK},
		{0, 1, "", api.ErrArg},
		{0, -1, "", api.ErrArg},
		{-1, 0, "", api.ErrArg},
		{math.MinInt64, 0, "1", api.ErrArg},
		{great + 1, 0, "", api.ErrArg},
		{math.MaxInt64, 0, "1", api.ErrArg},
		{5, -1, "", api.ErrArg},
		{5, great + 1, "", api.ErrArg},
		{5, math.MaxInt64, "1", api.ErrArg},
		{5, math.MinInt64, "1", api.ErrArg},
		{0, 0, "0", api.ErrArg},
		{5, 0, "0", api.ErrArg},
		{0, 0, "-1", api.ErrArg},
		{0, 0, "1 0", api.ErrArg},
		{0, 0, "1152921504606846977", api.ErrArg},
		{0, 0, "1 1152921504606846977", api.ErrArg},
		{0, 0, "2 1", api.ErrArg},
		{0, 0, "1 2 3 2", api.ErrArg},
		{5, 3, "2", api.ErrArg},
		{5, 3, "2 3", api.ErrArg},
	} {
		g, why := New(c.base, c.term, entries(c.l))
		if why != c.why || (g != nil) != (why == api.OK) {
			t.Errorf("New(%d, %d, %s): %v, %d; want %d", c.base, c.term, c.l, g, why, c.why)
		}
		if why == api.OK {
			wantLog(t, g, c.base, c.term, c.l)
		}
	}
}

// P9.1, P9.2, P1: at most 4096 entries; ErrFull ahead of ErrArg.
func TestFull(t *testing.T) {
	for _, base := range []int64{-1, 0, 7} {
		for _, term := range []int64{0, 1} {
			if g, why := New(base, 0, many(4097, term)); g != nil || why != api.ErrFull {
				t.Errorf("New of 4097 entries: %v, %d", g, why)
			}
		}
	}
	g := mustNew(t, 7, 1, many(4096, 1))
	if last, _ := g.Last(); g.Len() != 4096 || last != 4103 {
		t.Errorf("Len %d, Last %d", g.Len(), last)
	}
	for _, term := range []int64{0, 1} {
		if why := g.Append(many(1, term)...); why != api.ErrFull {
			t.Errorf("Append to a full log: %d", why)
		}
	}
	if why := g.Append(); why != api.OK {
		t.Errorf("Append of nothing: %d", why)
	}
	if why := g.Compact(9); why != api.OK {
		t.Errorf("Compact: %d", why)
	}
	if g.Append(many(3, 1)...) != api.ErrFull || g.Append(many(2, 0)...) != api.ErrArg || g.Len() != 4094 {
		t.Error("Append of more than there is room for")
	}
	if why := g.Append(many(2, 1)...); why != api.OK || g.Len() != 4096 {
		t.Errorf("Append: %d, Len %d", why, g.Len())
	}
}

// P9.2: Append, and that a refused one changes nothing.
func TestAppend(t *testing.T) {
	g := mustNew(t, 4, 2, nil)
	for _, c := range []struct {
		l    string
		why  api.Errno
		want string
	}{
		{"1a", api.ErrArg, ""},
		{"2a 1b", api.ErrArg, ""},
		{"0", api.ErrArg, ""},
		{"", api.OK, ""},
		{"2a 2b", api.OK, "2a 2b"},
		{"1c", api.ErrArg, "2a 2b"},
		{"3c 4d", api.OK, "2a 2b 3c 4d"},
		{"3e", api.ErrArg, "2a 2b 3c 4d"},
		{"5e 4f", api.ErrArg, "2a 2b 3c 4d"},
		{"1152921504606846977e", api.ErrArg, "2a 2b 3c 4d"},
		{"1152921504606846976e", api.OK, "2a 2b 3c 4d 1152921504606846976e"},
	} {
		if why := g.Append(entries(c.l)...); why != c.why {
			t.Errorf("Append(%s): %d, want %d", c.l, why, c.why)
		}
		wantLog(t, g, 4, 2, c.want)
	}
}

// P9.2: Cut, at and beyond its edges.
func TestCut(t *testing.T) {
	for at, want := range map[int64]string{4: "", 5: "2a", 6: "2a 2b", 7: "2a 2b 3c"} {
		g := mustNew(t, 3, 1, entries("2a 2b 3c"))
		if why := g.Cut(at); why != api.OK {
			t.Errorf("Cut(%d): %d", at, why)
		}
		wantLog(t, g, 3, 1, want)
		if why := g.Append(entries("4d")...); why != api.OK {
			t.Errorf("Append behind Cut: %d", why)
		}
		wantLog(t, g, 3, 1, want+" 4d")
	}
	g := mustNew(t, 3, 1, entries("2a 2b 3c"))
	for _, at := range []int64{math.MinInt64, -1, 0, 3, 8, math.MaxInt64} {
		if why := g.Cut(at); why != api.ErrArg {
			t.Errorf("Cut(%d): %d", at, why)
		}
	}
	wantLog(t, g, 3, 1, "2a 2b 3c")
	g = mustNew(t, 3, 1, nil)
	if g.Cut(4) != api.OK || g.Cut(3) != api.ErrArg || g.Cut(5) != api.ErrArg {
		t.Error("Cut of a log of no entries")
	}
}

// P9.2: Compact, at and beyond its edges.
func TestCompact(t *testing.T) {
	for _, c := range []struct {
		at, term int64
		want     string
	}{{3, 1, "2a 2b 3c"}, {4, 2, "2b 3c"}, {5, 2, "3c"}, {6, 3, ""}} {
		g := mustNew(t, 3, 1, entries("2a 2b 3c"))
		if why := g.Compact(c.at); why != api.OK {
			t.Errorf("Compact(%d): %d", c.at, why)
		}
		wantLog(t, g, c.at, c.term, c.want)
		if g.Append(entries("2d")...) == api.OK && c.term > 2 {
			t.Error("Append of a term below the base's")
		}
	}
	g := mustNew(t, 3, 1, entries("2a 2b 3c"))
	for _, at := range []int64{math.MinInt64, -1, 0, 2, 7, math.MaxInt64} {
		if why := g.Compact(at); why != api.ErrArg {
			t.Errorf("Compact(%d): %d", at, why)
		}
	}
	wantLog(t, g, 3, 1, "2a 2b 3c")
}

// P9.1, P9.2: the greatest places; behind a base above 2^60, to which a log may be compacted, nothing can be appended.
func TestGreatPlaces(t *testing.T) {
	g := mustNew(t, great, 1, entries("1a 2b"))
	if why := g.Append(entries("2c")...); why != api.OK {
		t.Errorf("Append: %d", why)
	}
	wantLog(t, g, great, 1, "1a 2b 2c")
	if upTo, from, why := g.Match(great+1, 1, entries("3d 3e")); upTo != great+3 || from != great+2 || why != api.OK {
		t.Errorf("Match: %d, %d, %d", upTo, from, why)
	}
	if why := g.Compact(great + 1); why != api.OK {
		t.Errorf("Compact: %d", why)
	}
	if g.Append(entries("3f")...) != api.ErrArg {
		t.Error("Append behind a base that can not be")
	}
	wantLog(t, g, great+1, 1, "3d 3e")
	if why := g.Cut(great + 3); why != api.OK {
		t.Errorf("Cut: %d", why)
	}
	wantLog(t, g, great+1, 1, "3d")
}

// P9.4: Newer asks for the term first, and then for the place.
func TestNewer(t *testing.T) {
	for _, c := range []struct {
		g        *Log
		at, term int64
		want     bool
	}{
		{mustNew(t, 0, 0, nil), 0, 0, true},
		{mustNew(t, 0, 0, nil), -1, 0, false},
		{mustNew(t, 0, 0, nil), -1, 1, true},
		{mustNew(t, 0, 0, nil), 9, -1, false},
		{mustNew(t, 0, 0, entries("1 1 2")), 3, 2, true},
		{mustNew(t, 0, 0, entries("1 1 2")), 4, 2, true},
		{mustNew(t, 0, 0, entries("1 1 2")), 2, 2, false},
		{mustNew(t, 0, 0, entries("1 1 2")), 9, 1, false},
		{mustNew(t, 0, 0, entries("1 1 2")), 0, 3, true},
		{mustNew(t, 0, 0, entries("1 1 2")), math.MinInt64, math.MaxInt64, true},
		{mustNew(t, 0, 0, entries("1 1 2")), math.MaxInt64, math.MinInt64, false},
		{mustNew(t, 8, 5, nil), 8, 5, true},
		{mustNew(t, 8, 5, nil), 7, 5, false},
		{mustNew(t, 8, 5, nil), 7, 6, true},
		{mustNew(t, 8, 5, nil), 9, 4, false},
	} {
		if got := c.g.Newer(c.at, c.term); got != c.want {
			t.Errorf("Newer(%d, %d) of %s: %v", c.at, c.term, told(c.g), got)
		}
	}
}

// P9.4: Each goes through what was there when it was called, as often as one likes, and up to where one likes.
func TestEachAsItWas(t *testing.T) {
	g := mustNew(t, 2, 1, entries("1a 2b 2c"))
	all := g.Each()
	g.Cut(4)
	g.Append(entries("5x 5y 5z")...)
	g.Compact(4)
	for range 2 {
		got := ""
		for at, e := range all {
			got += string(rune('0'+at)) + string(e.Cmd)
			e.Cmd[0] = 'x'
			_ = append(e.Cmd, "more"...)
			g.Append(entries("6w")...)
		}
		if got != "3a4b5c" {
			t.Errorf("Each: %s", got)
		}
	}
	count := 0
	for range all {
		if count++; count == 2 {
			break
		}
	}
	if count != 2 {
		t.Errorf("%d were gone through", count)
	}
	wantLog(t, g, 4, 5, "5y 5z 6w 6w 6w 6w 6w 6w")
}

// P9.4: what is done with a log is not seen in its copy, and the other way round.
func TestCopy(t *testing.T) {
	g := mustNew(t, 2, 1, entries("1a 2b 2c"))
	c := g.Copy()
	wantLog(t, c, 2, 1, "1a 2b 2c")
	g.Cut(4)
	g.Append(entries("3x 3y 3z")...)
	wantLog(t, c, 2, 1, "1a 2b 2c")
	c.Match(2, 1, entries("1a 4v"))
	c.Compact(3)
	c.Append(entries("4w")...)
	wantLog(t, c, 3, 1, "4v 4w")
	wantLog(t, g, 2, 1, "1a 3x 3y 3z")
}

// P1 (rules 4, 5): what is handed in is neither changed nor kept, and what is answered is new memory.
func TestMemory(t *testing.T) {
	l := entries("1a 1b 2c")
	g := mustNew(t, 0, 0, l[:2:3])
	if why := g.Append(l[2]); why != api.OK {
		t.Errorf("Append: %d", why)
	}
	more := entries("2c 3d 3e")
	if _, from, why := g.Match(2, 1, more); from != 4 || why != api.OK {
		t.Errorf("Match: %d, %d", from, why)
	}
	if text(l) != "1a 1b 2c" || text(more) != "2c 3d 3e" {
		t.Error("what is handed in is changed")
	}
	spoil(l)
	spoil(more)
	c := g.Copy()
	for range 2 {
		part := g.Part(1, 2)
		spoil(part)
		_ = append(part, api.Entry{Term: 9})
		spoil(c.Part(1, 9))
	}
	wantLog(t, g, 0, 0, "1a 1b 2c 3d 3e")
	wantLog(t, c, 0, 0, "1a 1b 2c 3d 3e")
}

// spoil writes into all that entries have.
func spoil(l []api.Entry) {
	for i := range l {
		copy(l[i].Cmd, "!!!")
		_ = append(l[i].Cmd, "more"...)
		l[i] = api.Entry{Term: -7}
	}
}
