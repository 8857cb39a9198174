package rlog

import (
	"fmt"
	"math"
	"strconv"
	"strings"
	"testing"

	"almoner/api"
)

// great is the greatest base, and the greatest term.
const great = int64(1) << 60

// entries is the entries that a text tells: 2a is one of the term 2 with the command a.
func entries(text string) []api.Entry {
	var l []api.Entry
	for _, word := range strings.Fields(text) {
		cut := len(word)
		if i := strings.IndexFunc(word, func(c rune) bool { return c >= 'a' && c <= 'z' }); i >= 0 {
			cut = i
		}
		term, err := strconv.ParseInt(word[:cut], 10, 64)
		if err != nil {
			panic(err)
		}
		l = append(l, api.Entry{Term: term, Cmd: []byte(word[cut:])})
	}
	return l
}

// many is so many entries of a term.
func many(count int, term int64) []api.Entry {
	l := make([]api.Entry, count)
	for i := range l {
		l[i].Term = term
	}
	return l
}

// text is entries as a text.
func text(l []api.Entry) string {
	var words []string
	for _, e := range l {
		words = append(words, fmt.Sprintf("%d%s", e.Term, e.Cmd))
	}
	return strings.Join(words, " ")
}

// told is a log as a text: its base, that one's term, its entries.
func told(g *Log) string {
	base, term := g.Base()
	return fmt.Sprintf("%d/%d: %s", base, term, text(g.Part(base+1, math.MaxInt)))
}

func mustNew(t *testing.T, base, term int64, l []api.Entry) *Log {
	t.Helper()
	g, why := New(base, term, l)
	if g == nil || why != api.OK {
		t.Fatalf("New(%d, %d, %d entries): %v, %d", base, term, len(l), g, why)
	}
	return g
}

// wantLog holds all that a log tells against what it is to have.
func wantLog(t *testing.T, g *Log, base, term int64, want string) {
	t.Helper()
	l := entries(want)
	if gotBase, gotTerm := g.Base(); gotBase != base || gotTerm != term {
		t.Fatalf("Base: %d, %d; want %d, %d", gotBase, gotTerm, base, term)
	}
	wantTerm(t, g, base, term)
	last := base
	for i, e := range l {
		last, term = base+1+int64(i), e.Term
		wantTerm(t, g, last, term)
		for _, count := range []int{math.MinInt, -1, 0, 1, 2, len(l) - i, math.MaxInt} {
			part := l[i : i+max(0, min(count, len(l)-i))]
			if got := g.Part(last, count); text(got) != text(part) {
				t.Fatalf("Part(%d, %d): %s; want %s", last, count, text(got), text(part))
			}
		}
	}
	if gotLast, gotTerm := g.Last(); gotLast != last || gotTerm != term || g.Len() != len(l) {
		t.Fatalf("Last: %d, %d, Len %d; want %d, %d, %d", gotLast, gotTerm, g.Len(), last, term, len(l))
	}
	wantNothing(t, g, base, last)
	wantEach(t, g, base, l)
}

func wantTerm(t *testing.T, g *Log, at, want int64) {
	t.Helper()
	if got, why := g.Term(at); got != want || why != api.OK {
		t.Fatalf("Term(%d): %d, %d; want %d", at, got, why, want)
	}
}

// wantNothing asks that a log has nothing outside its places.
func wantNothing(t *testing.T, g *Log, base, last int64) {
	t.Helper()
	for _, at := range []int64{math.MinInt64, -1, 0, base - 1, base, last + 1, last + 2, math.MaxInt64} {
		if l := g.Part(at, 9); (at <= base || at > last) && len(l) != 0 {
			t.Fatalf("Part(%d, 9): %s", at, text(l))
		}
		if at >= base && at <= last {
			continue
		}
		if term, why := g.Term(at); term != 0 || why != api.ErrArg {
			t.Fatalf("Term(%d): %d, %d", at, term, why)
		}
	}
}

func wantEach(t *testing.T, g *Log, base int64, l []api.Entry) {
	t.Helper()
	count := 0
	for at, e := range g.Each() {
		if count >= len(l) || at != base+1+int64(count) || text([]api.Entry{e}) != text(l[count:count+1]) {
			t.Fatalf("Each: %d, %v; want %s", at, e, text(l))
		}
		count++
	}
	if count != len(l) {
		t.Fatalf("Each goes through %d entries of %d", count, len(l))
	}
}
