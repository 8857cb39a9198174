package btree

import (
	"slices"
	"strings"

	"almoner/api"
	"almoner/codec"
	"almoner/pager"
)

// mark ends what a page holds: by it a page that something else has written is known.
const mark = "tree"

const (
	restBytes = 2 + 1 + 1 + len(mark) // a page's bytes beside its places: its level, how many they are, the mark
	mostBytes = pager.Page - restBytes
	thinBytes = mostBytes / 4 // a page with less is joined with its neighbour; no page that was cut in two has less
)

const (
	leafBytes  = 1 + 1 // a place's bytes beside its key and its value: how many these have
	childBytes = 1 + 2 // the same of a place above the leaves, whose page's number has two bytes at most
	mostPlaces = mostBytes / (leafBytes + 1)
)

// mostLevel is more than a tree can have, as each level has a page.
const mostLevel = api.MaxSectors

// anyLevel is the level of a root, which its page alone tells.
const anyLevel = -1

// place is a key, and its value in a leaf; in a page above the leaves, the page below it whose first key this is.
type place struct {
	key   string
	val   []byte
	child int
}

// bytes answers how many bytes a place takes at most in a page of a level.
func (p place) bytes(level int) int {
	if level == 0 {
		return leafBytes + len(p.key) + len(p.val)
	}
	return childBytes + len(p.key)
}

// allowed tells whether a place can be one of a tree.
func (p place) allowed() bool {
	return len(p.key) >= 1 && len(p.key) <= api.MaxKey && len(p.val) <= api.MaxValue && p.child < api.MaxSectors
}

// bytesOf answers how many bytes places take at most in a page of a level.
func bytesOf(level int, places []place) int {
	n := 0
	for _, p := range places {
		n += p.bytes(level)
	}
	return n
}

// rising tells whether all places can be, with keys that rise.
func rising(places []place) bool {
	for i, p := range places {
		if !p.allowed() || i > 0 && p.key <= places[i-1].key {
			return false
		}
	}
	return true
}

// search answers where the place of a key is, or should be, and whether it is there.
func search(places []place, key string) (int, bool) {
	return slices.BinarySearchFunc(places, key, func(p place, key string) int {
		return strings.Compare(p.key, key)
	})
}

// spot is where a page lies in a tree.
type spot struct {
	page  int
	level int    // how many pages are on the way from it to a value
	low   string // its first key; any, if empty
	high  string // its keys are ahead of this one; any are, if empty
}

// meets tells whether a page at the spot may have keys that are not ahead of from, and ahead of to.
func (s spot) meets(from, to string) bool {
	return (s.high == "" || from < s.high) && (to == "" || s.low < to)
}

// node is a page of a tree as it was read.
type node struct {
	spot
	count  int
	places [mostPlaces]place
}

// held answers the places of a page, in its memory.
func (n *node) held() []place {
	return n.places[:n.count:n.count]
}

// way answers the place below which a key is, or should be.
func (n *node) way(key string) int {
	i, is := search(n.held(), key)
	if is {
		return i
	}
	// A key that is ahead of all belongs below the first.
	return max(i-1, 0)
}

// below answers where the page of a place lies.
func (n *node) below(i int) spot {
	s := spot{page: n.places[i].child, level: n.level - 1, low: n.places[i].key, high: n.high}
	if i+1 < n.count {
		s.high = n.places[i+1].key
	}
	return s
}

// encoded answers the bytes of a page of a level.
func encoded(level int, places []place) []byte {
	b := codec.Uint(nil, uint64(level))
	b = codec.Uint(b, uint64(len(places)))
	for _, p := range places {
		b = codec.Text(b, p.key)
		if level == 0 {
			b = codec.Bytes(b, p.val)
		} else {
			b = codec.Uint(b, uint64(p.child))
		}
	}
	return codec.Text(b, mark)
}

// decoded answers the page that lies at a spot, if these bytes can be one there.
func decoded(b []byte, at spot) (*node, bool) {
	r := codec.NewReader(b)
	level := int(min(r.Uint(), mostLevel))
	n := &node{spot: at, count: r.Count(mostPlaces)}
	n.level = level
	for i := range n.count {
		n.places[i] = readPlace(r, n.level)
	}
	// Behind an error the Reader answers nothing more, and so no mark.
	right := r.Text() == mark && zero(b[r.At():])
	return n, right && n.fits(at)
}

// readPlace reads a place of a page of a level.
func readPlace(r *codec.Reader, level int) place {
	p := place{key: r.Text()}
	if level == 0 {
		p.val = r.Bytes()
	} else {
		p.child = int(min(r.Uint(), api.MaxSectors))
	}
	return p
}

// fits tells whether a page can lie at a spot.
func (n *node) fits(at spot) bool {
	places := n.held()
	switch {
	case n.level == mostLevel || at.level != anyLevel && n.level != at.level:
		return false
	case len(places) == 0 || !rising(places):
		return false
	case at.low != "" && places[0].key != at.low:
		return false
	}
	return at.high == "" || places[len(places)-1].key < at.high
}

// zero tells whether all bytes are 0.
func zero(b []byte) bool {
	return !slices.ContainsFunc(b, func(c byte) bool { return c != 0 })
}
