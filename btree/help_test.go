package btree

import (
	"bytes"
	"fmt"
	"maps"
	"slices"
	"strings"
	"testing"

	"almoner/api"
	"almoner/disk"
	"almoner/pager"
)

// newPager is a pager of so many pages on a disk that has nothing else.
func newPager(t *testing.T, pages int) (*pager.Pager, *disk.Disk) {
	t.Helper()
	d, why := disk.New(pages + 2)
	if why != api.OK {
		t.Fatalf("disk.New: %d", why)
	}
	p, _, why := pager.Open(d, 0, pages+2)
	if why != api.OK {
		t.Fatalf("pager.Open: %d", why)
	}
	return p, d
}

func mustNew(t *testing.T, p *pager.Pager, root int) *Tree {
	t.Helper()
	b, why := New(p, root)
	if b == nil || why != api.OK {
		t.Fatalf("New(%d): %v, %d", root, b, why)
	}
	return b
}

func mustLoad(t *testing.T, p *pager.Pager, l []api.Pair) *Tree {
	t.Helper()
	b, why := Load(p, l)
	if b == nil || why != api.OK {
		t.Fatalf("Load of %d pairs: %v, %d", len(l), b, why)
	}
	return b
}

func mustPut(t *testing.T, b *Tree, key, val string) {
	t.Helper()
	if why := b.Put(key, []byte(val)); why != api.OK {
		t.Fatalf("Put(%q, %q): %d", key, val, why)
	}
}

// mustDel takes a key away, which must be there or not.
func mustDel(t *testing.T, b *Tree, key string, was bool) {
	t.Helper()
	if got, why := b.Del(key); got != was || why != api.OK {
		t.Fatalf("Del(%q): %v, %d; want %v", key, got, why, was)
	}
}

// mustFlip makes a tree the one that is safe: pages of all others are free then.
func mustFlip(t *testing.T, p *pager.Pager, b *Tree) {
	t.Helper()
	if why := p.Flip(b.Root(), 1, nil, mustPages(t, b)); why != api.OK {
		t.Fatalf("Flip: %d", why)
	}
}

// mustWrite writes a page as it stands.
func mustWrite(t *testing.T, p *pager.Pager, b []byte) int {
	t.Helper()
	page, why := p.Write(b)
	if why != api.OK {
		t.Fatalf("the pager's Write: %d", why)
	}
	return page
}

func mustPages(t *testing.T, b *Tree) []int {
	t.Helper()
	pages, why := b.Pages()
	if why != api.OK {
		t.Fatalf("Pages: %d", why)
	}
	return pages
}

// told is the pairs of a tree, from one key on and ahead of another one, as a text.
func told(b *Tree, from, to string) string {
	var l []string
	for k, v := range b.Each(from, to) {
		l = append(l, fmt.Sprintf("%s=%s", k, v))
	}
	return strings.Join(l, " ")
}

// wantTree holds all that a tree tells against what is to be in it.
func wantTree(t *testing.T, b *Tree, want map[string]string) {
	t.Helper()
	if why := b.Right(); why != api.OK {
		t.Fatalf("Right: %d", why)
	}
	if n, why := b.Len(); n != len(want) || why != api.OK {
		t.Fatalf("Len: %d, %d; want %d", n, why, len(want))
	}
	keys := slices.Sorted(maps.Keys(want))
	i := 0
	for k, v := range b.Each("", "") {
		if i == len(keys) || k != keys[i] || string(v) != want[k] {
			t.Fatalf("Each: the pair %d is %q %q", i, k, v)
		}
		i++
	}
	if i != len(keys) {
		t.Fatalf("Each: %d pairs, want %d", i, len(keys))
	}
	for k, v := range want {
		if got, is, why := b.Get(k); string(got) != v || !is || why != api.OK {
			t.Fatalf("Get(%q): %q, %v, %d; want %q", k, got, is, why, v)
		}
	}
	wantPages(t, b)
	if (b.Root() == -1) != (len(want) == 0) {
		t.Fatalf("Root: %d, of %d keys", b.Root(), len(want))
	}
}

// wantPages asks that the pages rise and that the root is one of them.
func wantPages(t *testing.T, b *Tree) {
	t.Helper()
	pages := mustPages(t, b)
	if b.Root() == -1 {
		if len(pages) != 0 {
			t.Fatalf("Pages of no keys: %v", pages)
		}
		return
	}
	for i, page := range pages {
		if i > 0 && page <= pages[i-1] {
			t.Fatalf("Pages: %v", pages)
		}
	}
	if !slices.Contains(pages, b.Root()) {
		t.Fatalf("Pages: %v, and the root is %d", pages, b.Root())
	}
}

// numbered is so many pairs with keys and values of so many bytes.
func numbered(n, key, val int) []api.Pair {
	var l []api.Pair
	for i := range n {
		k := fmt.Sprintf("%05d", i)
		l = append(l, api.Pair{Key: k + strings.Repeat("k", key-len(k)), Val: bytes.Repeat([]byte{byte(i)}, val)})
	}
	return l
}

// mapOf is the pairs of a list.
func mapOf(l []api.Pair) map[string]string {
	m := map[string]string{}
	for _, p := range l {
		m[p.Key] = string(p.Val)
	}
	return m
}

// wantAll asks that every call of a tree that reads answers this error, and Each nothing.
func wantAll(t *testing.T, name string, b *Tree, want api.Errno) {
	t.Helper()
	root := b.Root()
	val, is, get := b.Get("k")
	was, del := b.Del("k")
	n, length := b.Len()
	pages, all := b.Pages()
	for call, why := range map[string]api.Errno{
		"Get": get, "Put": b.Put("k", nil), "Del": del, "Len": length, "Pages": all, "Right": b.Right(),
	} {
		if why != want {
			t.Errorf("%s: %s: %d, want %d", name, call, why, want)
		}
	}
	if val != nil || is || was || n != 0 || pages != nil {
		t.Errorf("%s: %v %v %v %d %v", name, val, is, was, n, pages)
	}
	if s := told(b, "", ""); s != "" {
		t.Errorf("%s: Each: %s", name, s)
	}
	if b.Root() != root {
		t.Errorf("%s: the root was %d, and is %d", name, root, b.Root())
	}
}
