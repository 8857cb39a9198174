package btree

import (
	"bytes"
	"fmt"
	"math"
	"math/rand"
	"strings"
	"testing"

	"almoner/api"
	"almoner/codec"
	"almoner/pager"
)

// leaf is the bytes of a leaf with these keys.
func leaf(keys ...string) []byte {
	var l []place
	for _, k := range keys {
		l = append(l, place{key: k, val: []byte("of " + k)})
	}
	return encoded(0, l)
}

// above is the bytes of a page of a level, with these keys and pages by turns.
func above(level int, l ...any) []byte {
	var places []place
	for i := 0; i < len(l); i += 2 {
		places = append(places, place{key: l[i].(string), child: l[i+1].(int)})
	}
	return encoded(level, places)
}

// onPages writes pages as they stand, the last one being the root.
func onPages(t *testing.T, pages ...[]byte) (*pager.Pager, *Tree) {
	t.Helper()
	p, _ := newPager(t, max(30, len(pages)))
	root := -1
	for _, b := range pages {
		root = mustWrite(t, p, b)
	}
	return p, mustNew(t, p, root)
}

// P6.2, P6.3: a page that can not be one of a tree is ErrForm.
func TestPagesOfNoTree(t *testing.T) {
	right := leaf("k", "l")
	full := encoded(0, []place{{key: strings.Repeat("a", 24), val: make([]byte, 80)}, {key: strings.Repeat("b", 24), val: make([]byte, 80)}, {key: "c", val: make([]byte, 30)}})
	if len(full) != 252 {
		t.Fatalf("a full page has %d bytes", len(full))
	}
	last := bytes.Clone(full)
	last[251] = 'x'
	long := codec.Text(codec.Bytes(codec.Text(codec.Uint(codec.Uint(nil, 0), 1), "k"), make([]byte, 81)), mark)
	// A page whose last place goes on behind its end.
	torn := codec.Uint(codec.Uint(nil, 1), 9)
	for i := range 9 {
		torn = codec.Text(torn, strings.Repeat(string(rune('a'+i)), 24))
		if len(torn) < 252 {
			torn = codec.Uint(torn, 200)
		}
	}
	for name, b := range map[string][]byte{
		"nothing":                nil,
		"one byte":               {1},
		"a text":                 []byte("no page of a tree"),
		"ones":                   bytes.Repeat([]byte{1}, 252),
		"255":                    bytes.Repeat([]byte{255}, 252),
		"no places":              encoded(0, nil),
		"no places above":        encoded(1, nil),
		"keys that fall":         leaf("l", "k"),
		"a key twice":            leaf("k", "k"),
		"an empty key":           leaf("", "k"),
		"a long key":             leaf(strings.Repeat("k", 25)),
		"a long value":           long,
		"no mark":                right[:len(right)-len(mark)-1],
		"another mark":           append(bytes.Clone(right[:len(right)-1]), 'x'),
		"half a mark":            right[:len(right)-1],
		"more behind the mark":   append(bytes.Clone(right), 0, 1),
		"more at the end":        append(append(bytes.Clone(right), make([]byte, 251-len(right))...), 1),
		"another mark at an end": last,
		"torn":                   torn[:min(len(torn), 252)],
		"too many places":        append(codec.Uint(codec.Uint(nil, 0), uint64(mostPlaces+1)), right[2:]...),
		"one place too many":     append(codec.Uint(codec.Uint(nil, 0), 3), right[2:]...),
		"one place too few":      append(codec.Uint(codec.Uint(nil, 0), 1), right[2:]...),
		"the level 4096":         above(4096, "k", 0),
		"the greatest level":     append(codec.Uint(nil, math.MaxUint64), above(1, "k", 0)[1:]...),
		"no such page below":     above(1, "k", 4096),
		"a page below 0":         above(1, "k", -1),
		"a level of itself":      above(1, "k", 0),
		"not its own level":      above(2, "k", 0),
	} {
		_, tree := onPages(t, b)
		wantAll(t, name, tree, api.ErrForm)
	}
	_, tree := onPages(t, right)
	wantTree(t, tree, map[string]string{"k": "of k", "l": "of l"})
	_, tree = onPages(t, full)
	if n, why := tree.Len(); n != 3 || why != api.OK {
		t.Errorf("a full page: %d, %d", n, why)
	}
}

// P6.2, P6.3: pages that can be, each for itself, but do not lie where they should.
func TestPagesThatLieWrong(t *testing.T) {
	b, d, k := leaf("b", "c"), leaf("d", "e"), leaf("k")
	for name, pages := range map[string][][]byte{
		"a first key too small":      {b, d, above(1, "c", 0, "d", 1)},
		"a first key too great":      {b, d, above(1, "a", 0, "d", 1)},
		"a later key too small":      {b, d, above(1, "b", 0, "c\x00", 1)},
		"a later key too great":      {b, d, above(1, "b", 0, "e", 1)},
		"keys that reach over":       {leaf("b", "e"), d, above(1, "b", 0, "d", 1)},
		"a key that is the next one": {leaf("b", "d"), d, above(1, "b", 0, "d", 1)},
		"a page twice":               {b, above(1, "b", 0, "d", 0)},
		"two pages by turns":         {above(1, "b", 1), above(1, "b", 0), above(2, "b", 0)},
		"itself":                     {above(1, "b", 0)},
		"itself, two levels up":      {above(1, "b", 1), above(2, "b", 0), above(3, "b", 1, "d", 0)},
		"a leaf too high":            {b, d, above(1, "d", 1), above(2, "b", 0, "d", 2)},
		"a leaf too low":             {b, above(1, "b", 0), above(1, "b", 1)},
		"a level left out":           {b, d, above(2, "b", 0, "d", 1)},
		"an upper bound, deeper":     {b, leaf("d", "l"), k, above(1, "b", 0, "d", 1), above(1, "k", 2), above(2, "b", 3, "k", 4)},
		"a lower bound, deeper":      {b, d, k, above(1, "b", 0, "d", 1), above(1, "k", 2), above(2, "b", 3, "j", 4)},
	} {
		_, tree := onPages(t, pages...)
		if why := tree.Right(); why != api.ErrForm {
			t.Errorf("%s: Right: %d", name, why)
		}
		if n, why := tree.Len(); n != 0 || why != api.ErrForm {
			t.Errorf("%s: Len: %d, %d", name, n, why)
		}
		if l, why := tree.Pages(); l != nil || why != api.ErrForm {
			t.Errorf("%s: Pages: %v, %d", name, l, why)
		}
	}
	for name, pages := range map[string][][]byte{
		"two leaves":      {b, d, above(1, "b", 0, "d", 1)},
		"leaves by turns": {d, b, above(1, "b", 1, "d", 0)},
		"one page below":  {b, above(1, "b", 0), above(2, "b", 1)},
		"three levels":    {b, d, k, above(1, "b", 0, "d", 1), above(1, "k", 2), above(2, "b", 3, "k", 4)},
	} {
		_, tree := onPages(t, pages...)
		if why := tree.Right(); why != api.OK {
			t.Errorf("%s: Right: %d", name, why)
		}
	}
}

// P6.2, P1: a tree that has a level for each page of the greatest pager is read and written as others are.
func TestDeepTree(t *testing.T) {
	_, tree := onPages(t, chain(4093)...)
	has := map[string]string{"b": "of b"}
	wantTree(t, tree, has)
	if why := tree.Put("a", nil); why != api.ErrFull {
		t.Errorf("Put: %d", why)
	}
	wantTree(t, tree, has)
	p, _ := newPager(t, 4094)
	for _, b := range chain(2000) {
		tree.root = mustWrite(t, p, b)
	}
	tree.pager = p
	mustPut(t, tree, "a", "first")
	has["a"] = "first"
	wantTree(t, tree, has)
	mustFlip(t, p, tree)
	mustDel(t, tree, "a", true)
	mustDel(t, tree, "b", true)
	wantTree(t, tree, nil)
}

// chain is a leaf and pages above it, one a level.
func chain(levels int) [][]byte {
	l := [][]byte{leaf("b")}
	for level := 1; level <= levels; level++ {
		l = append(l, above(level, "b", level-1))
	}
	return l
}

// P1: pages that all lead to one below, over many levels, are not gone through time and again.
func TestManyWays(t *testing.T) {
	pages := [][]byte{leaf("a")}
	for level := 1; level < 30; level++ {
		var l []any
		for i := range 40 {
			l = append(l, string(rune('a'+i)), level-1)
		}
		pages = append(pages, above(level, l...))
	}
	_, tree := onPages(t, pages...)
	if why := tree.Right(); why != api.ErrForm {
		t.Errorf("Right: %d", why)
	}
	if s := told(tree, "", ""); s != "" {
		t.Errorf("Each: %s", s)
	}
}

// P6.2: a root that is no page of the pager is its ErrArg; a page that was never written, its ErrSum.
func TestErrorsOfPager(t *testing.T) {
	p, _ := newPager(t, 5)
	for root, want := range map[int]api.Errno{5: api.ErrArg, math.MaxInt: api.ErrArg, 0: api.ErrSum, 4: api.ErrSum} {
		tree := mustNew(t, p, root)
		wantAll(t, fmt.Sprint("the root ", root), tree, want)
	}
	root := mustWrite(t, p, above(1, "a", 5))
	wantAll(t, "no such page below", mustNew(t, p, root), api.ErrArg)
	root = mustWrite(t, p, above(1, "a", 4))
	wantAll(t, "a page below that was not written", mustNew(t, p, root), api.ErrSum)
}

// P6.2: wherever a page of a tree is spoilt, all calls that need it answer the error, and the tree is as it was.
func TestSpoiltPages(t *testing.T) {
	l := numbered(30, 24, 70)
	for spoilt := 0; ; spoilt++ {
		p, d := newPager(t, 60)
		b := mustLoad(t, p, l)
		if spoilt == 60-p.Free() {
			break
		}
		sector, _ := d.Read(2 + spoilt)
		d.Write(2+spoilt, nil)
		free := p.Free()
		for call, why := range map[string]func() api.Errno{
			"Right": b.Right,
			"Len":   func() api.Errno { n, why := b.Len(); return zeroed(n == 0, why) },
			"Pages": func() api.Errno { l, why := b.Pages(); return zeroed(l == nil, why) },
		} {
			if got := why(); got != api.ErrSum {
				t.Errorf("page %d: %s: %d", spoilt, call, got)
			}
		}
		failed := 0
		for _, pair := range l {
			val, is, why := b.Get(pair.Key)
			switch {
			case why == api.OK && (!is || !bytes.Equal(val, pair.Val)), why != api.OK && (val != nil || is || why != api.ErrSum):
				t.Errorf("page %d: Get(%s): %v, %v, %d", spoilt, pair.Key, val, is, why)
			case why == api.ErrSum:
				failed++
				if why := b.Put(pair.Key, nil); why != api.ErrSum {
					t.Errorf("page %d: Put: %d", spoilt, why)
				}
				if was, why := b.Del(pair.Key); was || why != api.ErrSum {
					t.Errorf("page %d: Del: %v, %d", spoilt, was, why)
				}
			}
		}
		if failed == 0 || p.Free() != free {
			t.Errorf("page %d: %d calls failed, %d pages are free of %d", spoilt, failed, p.Free(), free)
		}
		d.Write(2+spoilt, sector)
		wantTree(t, b, mapOf(l))
	}
}

// zeroed is an error, or OK if what is answered beside it is not zero.
func zeroed(is bool, why api.Errno) api.Errno {
	if !is {
		return api.OK
	}
	return why
}

// P6.2: a page that has to be joined with a spoilt neighbour is the pager's error, and the tree is as it was.
func TestSpoiltNeighbour(t *testing.T) {
	for _, spoilt := range []int{0, 1} {
		p, d := newPager(t, 30)
		l := []api.Pair{{Key: "a", Val: make([]byte, 80)}, {Key: "b", Val: make([]byte, 80)}, {Key: "c", Val: make([]byte, 60)}, {Key: "x", Val: make([]byte, 80)}, {Key: "y", Val: make([]byte, 80)}}
		b := mustLoad(t, p, l)
		if n := len(mustPages(t, b)); n != 3 {
			t.Fatalf("the tree has %d pages", n)
		}
		keys := []string{"x", "y"}
		if spoilt == 1 {
			keys = []string{"a", "b", "c"}
		}
		for _, k := range keys[1:] {
			if why := b.Put(k, nil); why != api.OK {
				t.Fatalf("Put: %d", why)
			}
		}
		page := neighbour(t, b, spoilt)
		sector, _ := d.Read(2 + page)
		d.Write(2+page, nil)
		root, free := b.Root(), p.Free()
		if why := b.Put(keys[0], nil); why != api.ErrSum {
			t.Errorf("Put: %d", why)
		}
		if was, why := b.Del(keys[0]); was || why != api.ErrSum {
			t.Errorf("Del: %v, %d", was, why)
		}
		if b.Root() != root || p.Free() != free {
			t.Error("the tree is not as it was")
		}
		d.Write(2+page, sector)
		mustPut(t, b, keys[0], "")
		if why := b.Right(); why != api.OK {
			t.Errorf("Right: %d", why)
		}
	}
}

// neighbour is the page of the root's place i.
func neighbour(t *testing.T, b *Tree, i int) int {
	t.Helper()
	n, why := b.read(b.top())
	if why != api.OK {
		t.Fatalf("the root: %d", why)
	}
	return n.places[i].child
}

// P6.3: no tree that was made by Load alone has more pages than keys, and 1 more.
func TestPagesOfLoad(t *testing.T) {
	r := rand.New(rand.NewSource(1))
	for n := range 200 {
		sizes := map[string][]api.Pair{"great": numbered(n, 24, 80), "small": numbered(n, 5, 0), "any": numbered(n, 24, 80)}
		for i := range sizes["any"] {
			pair := &sizes["any"][i]
			pair.Key = pair.Key[:5+r.Intn(20)]
			pair.Val = pair.Val[:r.Intn(81)]
		}
		// A great one behind small ones, so that pages are left half empty.
		for i, pair := range sizes["great"] {
			if n%2 == 1 && i%3 == 0 {
				sizes["great"][i].Val = pair.Val[:28]
			}
		}
		for name, l := range sizes {
			p, _ := newPager(t, 500)
			b := mustLoad(t, p, l)
			wantPages(t, b)
			pages := mustPages(t, b)
			if len(pages) > n+1 || len(pages) > 3 && len(pages) > n || b.Right() != api.OK {
				t.Errorf("%d %s keys: %d pages, Right %d", n, name, len(pages), b.Right())
			}
			if 500-p.Free() != len(pages) {
				t.Errorf("%d %s keys: %d pages are written for %d", n, name, 500-p.Free(), len(pages))
			}
			if name == "small" && len(pages) > 2+n/20 {
				t.Errorf("%d small keys: %d pages", n, len(pages))
			}
		}
	}
}

// P6.3: pages are filled to the last byte: 244 of them are for places, whose lengths take a byte each.
func TestFilledPages(t *testing.T) {
	key := func(c string, n int) string { return strings.Repeat(c, n) }
	for _, c := range []struct {
		name string
		l    []api.Pair
		want int
	}{
		{"244 bytes", []api.Pair{{Key: key("a", 24), Val: make([]byte, 80)}, {Key: key("b", 24), Val: make([]byte, 80)}, {Key: key("c", 10), Val: make([]byte, 20)}}, 1},
		{"245 bytes", []api.Pair{{Key: key("a", 24), Val: make([]byte, 80)}, {Key: key("b", 24), Val: make([]byte, 80)}, {Key: key("c", 10), Val: make([]byte, 21)}}, 3},
		{"81 keys of one byte", letters(81), 1},
		{"82 keys of one byte", letters(82), 3},
		{"162 keys of one byte", letters(162), 3},
		{"163 keys of one byte", letters(163), 4},
		{"nine leaves of long keys", numbered(18, 24, 80), 10},
		{"ten leaves of long keys", numbered(20, 24, 80), 13},
	} {
		p, _ := newPager(t, 30)
		loaded := mustLoad(t, p, c.l)
		wantTree(t, loaded, mapOf(c.l))
		if n := len(mustPages(t, loaded)); n != c.want {
			t.Errorf("%s, loaded: %d pages, want %d", c.name, n, c.want)
		}
		if c.want > 3 {
			continue
		}
		p, _ = newPager(t, 1000)
		put := mustNew(t, p, -1)
		for _, pair := range c.l {
			mustPut(t, put, pair.Key, string(pair.Val))
		}
		wantTree(t, put, mapOf(c.l))
		if n := len(mustPages(t, put)); n != c.want && len(c.l) < 100 {
			t.Errorf("%s, put: %d pages, want %d", c.name, n, c.want)
		}
	}
}

// letters is so many keys of one byte, without values.
func letters(n int) []api.Pair {
	var l []api.Pair
	for i := range n {
		l = append(l, api.Pair{Key: string([]byte{byte(i + 1)})})
	}
	return l
}

// P6.3: all that a pager has room for is loaded, in order, over some levels.
func TestGreatLoad(t *testing.T) {
	l := numbered(7000, 24, 80)
	p, _ := newPager(t, 4094)
	b := mustLoad(t, p, l)
	if why := b.Right(); why != api.OK {
		t.Errorf("Right: %d", why)
	}
	if n, why := b.Len(); n != 7000 || why != api.OK {
		t.Errorf("Len: %d, %d", n, why)
	}
	if n := len(mustPages(t, b)); n > 4000 {
		t.Errorf("%d pages", n)
	}
	for i := 0; i < 7000; i += 97 {
		if val, is, why := b.Get(l[i].Key); !bytes.Equal(val, l[i].Val) || !is || why != api.OK {
			t.Errorf("Get(%s): %v, %d", l[i].Key, is, why)
		}
	}
	q, _ := newPager(t, 4094)
	if c, why := Load(q, numbered(9000, 24, 80)); c != nil || why != api.ErrFull || q.Free() != 4094 {
		t.Errorf("Load of too many: %d, %d pages are free", why, q.Free())
	}
}
