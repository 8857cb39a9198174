package btree

import (
	"fmt"
	"maps"
	"math/rand"
	"slices"
	"strings"
	"testing"

	"almoner/api"
	"almoner/disk"
	"almoner/pager"
)

// elder is a root, and what its tree had.
type elder struct {
	root int
	has  map[string]string
}

// trial is a tree, and what must be in it.
type trial struct {
	t      *testing.T
	r      *rand.Rand
	d      *disk.Disk
	p      *pager.Pager
	b      *Tree
	has    map[string]string
	safe   elder   // what was flipped to
	elders []elder // what was, since then
	keys   int     // how many keys there may be
	great  bool    // are keys and values great?
}

func newTrial(t *testing.T, seed int64, pages int) *trial {
	r := rand.New(rand.NewSource(seed))
	x := &trial{t: t, r: r, has: map[string]string{}, keys: 1 + r.Intn(120), great: r.Intn(3) == 0}
	x.p, x.d = newPager(t, pages)
	x.b = mustNew(t, x.p, -1)
	x.safe = elder{-1, map[string]string{}}
	return x
}

// key is one of those that there may be; how long it is hangs on it alone.
func (x *trial) key() string {
	n := x.r.Intn(x.keys)
	k := fmt.Sprintf("%x", n*7919%65536)
	switch {
	case x.great:
		return k + strings.Repeat("-", 24-len(k))
	case n%3 == 0:
		return k
	}
	return k + strings.Repeat("\xff", n%20)
}

func (x *trial) val() string {
	most := 81
	switch {
	case x.great:
		return strings.Repeat("v", 80)
	case x.r.Intn(2) == 0:
		most = 8
	}
	b := make([]byte, x.r.Intn(most))
	x.r.Read(b)
	return string(b)
}

// keep keeps what the tree has, to be asked for later by its root alone.
func (x *trial) keep() {
	x.elders = append(x.elders, elder{x.b.Root(), maps.Clone(x.has)})
}

func (x *trial) put() {
	k, v := x.key(), x.val()
	root := x.b.Root()
	why := x.b.Put(k, []byte(v))
	if why == api.ErrFull {
		x.flip()
		root = x.b.Root()
		why = x.b.Put(k, []byte(v))
	}
	if why != api.OK || x.b.Root() == root {
		x.t.Fatalf("Put: %d, of the root %d now %d", why, root, x.b.Root())
	}
	x.has[k] = v
}

func (x *trial) del() {
	k := x.key()
	_, is := x.has[k]
	was, why := x.b.Del(k)
	if why == api.ErrFull {
		x.flip()
		was, why = x.b.Del(k)
	}
	if was != is || why != api.OK {
		x.t.Fatalf("Del: %v, %d; want %v", was, why, is)
	}
	delete(x.has, k)
}

// flip makes the tree the one that is safe; the elder ones are gone then.
func (x *trial) flip() {
	x.lookBack()
	mustFlip(x.t, x.p, x.b)
	x.safe = elder{x.b.Root(), maps.Clone(x.has)}
	x.elders = nil
}

// lookBack holds the trees of elder roots against what they had.
func (x *trial) lookBack() {
	for _, e := range append(x.elders, x.safe) {
		wantTree(x.t, mustNew(x.t, x.p, e.root), e.has)
	}
}

// crash keeps some bytes of what is not safe; the tree that was flipped to must be there.
func (x *trial) crash() {
	kept := make([]int, x.d.Unsynced())
	for i := range kept {
		kept[i] = x.r.Intn(400) - 100
	}
	x.d.Crash(kept)
	p, root, why := pager.Open(x.d, 0, x.d.Size())
	if why != api.OK || root.Page != x.safe.root {
		x.t.Fatalf("Open: %v, %d; want the page %d", root, why, x.safe.root)
	}
	x.p, x.b = p, mustNew(x.t, p, root.Page)
	x.has, x.elders = maps.Clone(x.safe.has), nil
	wantTree(x.t, x.b, x.has)
	if why := p.Use(mustPages(x.t, x.b)); why != api.OK {
		x.t.Fatalf("Use: %d", why)
	}
}

// step does something; more keys come than go, or the other way round.
func (x *trial) step(grows bool) {
	puts := 3
	if grows {
		puts = 7
	}
	switch n := x.r.Intn(100); {
	case n < 2:
		x.flip()
	case n < 3:
		x.crash()
	case n < 8 && len(x.elders) < 6:
		x.keep()
	case n%10 < puts:
		x.put()
	default:
		x.del()
	}
}

// P6.2-P6.6: scripts of puts, deletes, flips and crashes, held against a map; the trees of elder roots have what they had.
func TestScripts(t *testing.T) {
	for seed := range int64(60) {
		x := newTrial(t, seed, 300)
		for n := range 300 {
			x.step(n/75%2 == 0)
			if n%5 == 0 {
				wantTree(t, x.b, x.has)
			}
		}
		x.flip()
	}
}

// P6.4: all keys come in some order and go in some order; behind each step the tree has just what is left, on few pages.
func TestComeAndGo(t *testing.T) {
	orders := map[string]func([]api.Pair){
		"rising":  func([]api.Pair) {},
		"falling": slices.Reverse[[]api.Pair],
		"mixed": func(l []api.Pair) {
			r := rand.New(rand.NewSource(3))
			r.Shuffle(len(l), func(i, j int) { l[i], l[j] = l[j], l[i] })
		},
	}
	for _, size := range []struct{ n, key, val int }{{60, 24, 80}, {200, 5, 0}, {120, 12, 30}} {
		for come, first := range orders {
			for go1, second := range orders {
				p, _ := newPager(t, 600)
				b := mustNew(t, p, -1)
				l := numbered(size.n, size.key, size.val)
				has := map[string]string{}
				first(l)
				for _, pair := range l {
					mustPut(t, b, pair.Key, string(pair.Val))
					has[pair.Key] = string(pair.Val)
					wantLean(t, p, b, size.key+size.val, len(has))
				}
				wantTree(t, b, has)
				l = numbered(size.n, size.key, size.val)
				second(l)
				for _, pair := range l {
					mustDel(t, b, pair.Key, true)
					delete(has, pair.Key)
					wantLean(t, p, b, size.key+size.val, len(has))
					if len(has)%10 == 0 {
						wantTree(t, b, has)
					}
				}
				if b.Root() != -1 {
					t.Errorf("%s, %s: the root is %d", come, go1, b.Root())
				}
			}
		}
	}
}

// wantLean asks that a tree has no more pages than it would with each a quarter full, flips to it, and asks that it is right.
func wantLean(t *testing.T, p *pager.Pager, b *Tree, bytes, keys int) {
	t.Helper()
	if why := b.Right(); why != api.OK {
		t.Fatalf("Right: %d", why)
	}
	if n, most := len(mustPages(t, b)), 3+keys*(bytes+4)/50; n > most {
		t.Fatalf("%d pages for %d keys, want %d at most", n, keys, most)
	}
	mustFlip(t, p, b)
}

// P6.4: short keys that go leave long ones in their place in the pages above, which may have no room for them.
func TestKeysThatGrowAbove(t *testing.T) {
	p, _ := newPager(t, 4000)
	var l []api.Pair
	for i := range 120 {
		k := string([]byte{byte(i + 1)})
		l = append(l, api.Pair{Key: k, Val: make([]byte, 80)}, api.Pair{Key: k + strings.Repeat("z", 23), Val: make([]byte, 80)})
	}
	b := mustLoad(t, p, l)
	has := mapOf(l)
	for i := 0; i < len(l); i += 2 {
		mustDel(t, b, l[i].Key, true)
		delete(has, l[i].Key)
		if why := b.Right(); why != api.OK {
			t.Fatalf("Right: %d", why)
		}
	}
	wantTree(t, b, has)
	for i := 0; i < len(l); i += 2 {
		mustPut(t, b, l[i].Key, string(l[i].Val))
		has[l[i].Key] = string(l[i].Val)
	}
	wantTree(t, b, has)
}

// P6.5: the trees of all roots that ever were have what they had, as long as no page is released.
func TestElderRoots(t *testing.T) {
	p, _ := newPager(t, 4000)
	x := newTrial(t, 8, 1)
	x.p, x.b, x.keys = p, mustNew(t, p, -1), 60
	for p.Free() > 20 {
		x.keep()
		if x.r.Intn(3) > 0 {
			x.put()
		} else {
			x.del()
		}
	}
	if len(x.elders) < 500 {
		t.Errorf("%d roots", len(x.elders))
	}
	x.lookBack()
}

// P6.6: a tree that was flipped to is there behind a crash that keeps nothing, all or any part of what came since.
func TestFlippedTree(t *testing.T) {
	for kept := -1; kept <= 257; kept += 3 {
		p, d := newPager(t, 120)
		l := numbered(25, 24, 60)
		b := mustLoad(t, p, l)
		mustFlip(t, p, b)
		for i := range 10 {
			mustPut(t, b, l[i].Key, "new")
			mustDel(t, b, l[20-i].Key, true)
		}
		keeps := make([]int, d.Unsynced())
		for i := range keeps {
			keeps[i] = kept
		}
		d.Crash(keeps)
		q, root, why := pager.Open(d, 0, 122)
		if why != api.OK {
			t.Fatalf("Open: %d", why)
		}
		wantTree(t, mustNew(t, q, root.Page), mapOf(l))
	}
}

// FuzzScript: whatever is put and deleted, a tree has just what is left.
func FuzzScript(f *testing.F) {
	f.Add([]byte("put and del"))
	f.Add([]byte{1, 80, 2, 80, 3, 80, 129, 0, 4, 80, 130, 0, 5, 80})
	f.Fuzz(func(t *testing.T, script []byte) {
		p, _ := newPager(t, 1000)
		b := mustNew(t, p, -1)
		has := map[string]string{}
		for i := 0; i+1 < min(len(script), 400); i += 2 {
			n := int(script[i] & 127)
			k := strings.Repeat(string(rune('A'+n%50)), 1+n%24)
			if _, is := has[k]; script[i] > 127 {
				mustDel(t, b, k, is)
				delete(has, k)
			} else {
				v := strings.Repeat("v", int(script[i+1])%81)
				mustPut(t, b, k, v)
				has[k] = v
			}
			mustFlip(t, p, b)
		}
		wantTree(t, b, has)
	})
}

// FuzzPage: whatever stands in a page, no call of a tree panics, and each ends; what is in order tells as many keys as it has.
func FuzzPage(f *testing.F) {
	f.Add(leaf("a", "b"), above(1, "a", 0))
	f.Add(leaf("a", "b"), above(1, "a", 0, "b", 1))
	f.Add([]byte(nil), []byte{255})
	f.Fuzz(func(t *testing.T, below, top []byte) {
		p, _ := newPager(t, 40)
		if _, why := p.Write(below); why != api.OK {
			return
		}
		root, why := p.Write(top)
		if why != api.OK {
			return
		}
		b := mustNew(t, p, root)
		right := b.Right()
		n, length := b.Len()
		count := 0
		for range b.Each("", "") {
			count++
		}
		pages, all := b.Pages()
		if length != right || all != right || right == api.OK && (n != count || len(pages) > 2) {
			t.Fatalf("Right %d, Len %d %d, Pages %v %d, Each %d", right, n, length, pages, all, count)
		}
		put := b.Put("k", []byte("v"))
		if val, is, why := b.Get("k"); put == api.OK && (string(val) != "v" || !is || why != api.OK) {
			t.Fatalf("Get: %q, %v, %d", val, is, why)
		}
		if was, why := b.Del("k"); put == api.OK && (!was || why != api.OK) {
			t.Fatalf("Del: %v, %d", was, why)
		}
	})
}
