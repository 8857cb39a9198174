package btree

import (
	"bytes"
	"fmt"
	"math"
	"strings"
	"testing"

	"almoner/api"
	"almoner/pager"
)

// P6.1, P1: what New refuses, in the order of its errors.
func TestNew(t *testing.T) {
	p, _ := newPager(t, 4)
	for _, c := range []struct {
		p    *pager.Pager
		root int
		want api.Errno
	}{
		{nil, -1, api.ErrNil},
		{nil, -2, api.ErrNil},
		{p, -2, api.ErrArg},
		{p, math.MinInt, api.ErrArg},
		{p, -1, api.OK},
		{p, 0, api.OK},
		{p, 4, api.OK},
		{p, math.MaxInt, api.OK},
	} {
		b, why := New(c.p, c.root)
		if why != c.want || (b == nil) != (why != api.OK) {
			t.Errorf("New(%d): %v, %d; want %d", c.root, b, why, c.want)
		}
		if why == api.OK && b.Root() != c.root {
			t.Errorf("New(%d): the root is %d", c.root, b.Root())
		}
	}
	wantTree(t, mustNew(t, p, -1), nil)
	if p.Free() != 4 {
		t.Error("New writes")
	}
}

// P6.1, P1: what Load refuses, in the order of its errors; it writes nothing then.
func TestErrorsOfLoad(t *testing.T) {
	p, _ := newPager(t, 4)
	long, value := strings.Repeat("k", 25), make([]byte, 81)
	for name, l := range map[string][]api.Pair{
		"an empty key":               {{Key: ""}},
		"an empty key ahead":         {{Key: ""}, {Key: "a"}},
		"a long key":                 {{Key: "a"}, {Key: long}},
		"a long value":               {{Key: "a", Val: value}},
		"a long value behind":        {{Key: "a"}, {Key: "b", Val: value}},
		"a Del":                      {{Key: "a", Del: true}},
		"a Del behind":               {{Key: "a"}, {Key: "b", Del: true}},
		"keys that fall":             {{Key: "b"}, {Key: "a"}},
		"keys that fall behind":      {{Key: "a"}, {Key: "c"}, {Key: "b"}},
		"a key twice":                {{Key: "a"}, {Key: "a"}},
		"a key twice behind another": {{Key: "0"}, {Key: "a"}, {Key: "a", Val: []byte("v")}},
		"a longer key ahead":         {{Key: "aa"}, {Key: "a"}},
	} {
		if b, why := Load(p, l); b != nil || why != api.ErrArg {
			t.Errorf("%s: %v, %d", name, b, why)
		}
		if b, why := Load(nil, l); b != nil || why != api.ErrNil {
			t.Errorf("%s, and no pager: %v, %d", name, b, why)
		}
	}
	if p.Free() != 4 {
		t.Error("Load writes what it refuses")
	}
	if b, why := Load(nil, nil); b != nil || why != api.ErrNil {
		t.Errorf("no pager: %v, %d", b, why)
	}
}

// P6.1: what Load answers is a tree of just these, of any bytes.
func TestLoad(t *testing.T) {
	p, _ := newPager(t, 100)
	wantTree(t, mustLoad(t, p, nil), nil)
	if p.Free() != 100 {
		t.Error("Load of nothing writes")
	}
	for _, l := range [][]api.Pair{
		{{Key: "a"}},
		{{Key: "\x00"}, {Key: "\x00\x00", Val: []byte{0, 0}}, {Key: "a"}, {Key: "\xff"}, {Key: "\xff\xff"}},
		{{Key: strings.Repeat("\xff", 24), Val: make([]byte, 80)}},
		numbered(40, 24, 80),
		numbered(100, 5, 0),
	} {
		b := mustLoad(t, p, l)
		wantTree(t, b, mapOf(l))
		if n := len(mustPages(t, b)); n > len(l)+1 {
			t.Errorf("%d pages for %d keys", n, len(l))
		}
	}
}

// P6.1, P6.2: an error of the pager's Write is Load's and Put's; the pages are taken back.
func TestLoadOnFullPager(t *testing.T) {
	l := numbered(20, 24, 80)
	need := 0
	for pages := 1; ; pages++ {
		p, _ := newPager(t, pages)
		b, why := Load(p, l)
		if why == api.OK {
			wantTree(t, b, mapOf(l))
			need = pages
			break
		}
		if b != nil || why != api.ErrFull || p.Free() != pages {
			t.Fatalf("on %d pages: %v, %d, of which %d are free", pages, b, why, p.Free())
		}
	}
	if need > 21 {
		t.Errorf("20 keys need %d pages", need)
	}
	p, d := newPager(t, 50)
	d.Full(true)
	if b, why := Load(p, l); b != nil || why != api.ErrFull {
		t.Errorf("on a full disk: %v, %d", b, why)
	}
	if b, why := Load(p, l); b != nil || why != api.ErrDead {
		t.Errorf("on a dead pager: %v, %d", b, why)
	}
	wantTree(t, mustLoad(t, p, nil), nil)
}

// P6.1, P1: a nil tree answers ErrNil, at all arguments; its root is -1, and Each none.
func TestNilTree(t *testing.T) {
	var b *Tree
	wantAll(t, "nil", b, api.ErrNil)
	if why := b.Put("", make([]byte, 81)); why != api.ErrNil {
		t.Errorf("Put: %d", why)
	}
	if b.Root() != -1 {
		t.Errorf("Root: %d", b.Root())
	}
}

// P1: a tree that nobody has made has no pager; no call of it panics.
func TestZeroTree(t *testing.T) {
	wantAll(t, "zero", new(Tree), api.ErrNil)
}

// P6.2: the chapter's example.
func TestExample(t *testing.T) {
	p, _ := newPager(t, 20)
	b := mustNew(t, p, -1)
	mustPut(t, b, "b", "1")
	mustPut(t, b, "a", "2")
	mustPut(t, b, "b", "3")
	mustDel(t, b, "c", false)
	if s := told(b, "", ""); s != "a=2 b=3" {
		t.Errorf("Each: %s", s)
	}
	wantTree(t, b, map[string]string{"a": "2", "b": "3"})
}

// P6.2, P1: which keys and values can be.
func TestBoundsOfPut(t *testing.T) {
	p, _ := newPager(t, 30)
	b := mustNew(t, p, -1)
	for _, c := range []struct {
		key  string
		val  int
		want api.Errno
	}{
		{"", 0, api.ErrArg},
		{"", 81, api.ErrArg},
		{strings.Repeat("k", 25), 0, api.ErrArg},
		{strings.Repeat("k", 1000), 0, api.ErrArg},
		{"k", 81, api.ErrArg},
		{"k", 100000, api.ErrArg},
		{"k", 80, api.OK},
		{"\x00", 0, api.OK},
		{strings.Repeat("\xff", 24), 80, api.OK},
		{"Any Text, é too", 1, api.OK},
	} {
		root, free := b.Root(), p.Free()
		why := b.Put(c.key, make([]byte, c.val))
		if why != c.want {
			t.Errorf("Put of %d bytes, %d: %d, want %d", len(c.key), c.val, why, c.want)
		}
		if why != api.OK && (b.Root() != root || p.Free() != free) {
			t.Errorf("a Put that is refused writes")
		}
		if val, is, _ := b.Get(c.key); is != (why == api.OK) || is && len(val) != c.val {
			t.Errorf("Get: %d bytes, %v", len(val), is)
		}
	}
}

// P6.2: a key that can not be, or is not there, is not found, and taken away by a Del that writes nothing.
func TestKeysThatAreNotThere(t *testing.T) {
	p, _ := newPager(t, 60)
	b := mustNew(t, p, -1)
	for range 2 {
		root, free := b.Root(), p.Free()
		for _, key := range []string{"", "a", "00000kk", "00003", "00003kkkkk0", "00019kkkkk", "z", strings.Repeat("0", 25), strings.Repeat("z", 1000)} {
			if val, is, why := b.Get(key); val != nil || is || why != api.OK {
				t.Errorf("Get(%q): %v, %v, %d", key, val, is, why)
			}
			mustDel(t, b, key, false)
		}
		if b.Root() != root || p.Free() != free {
			t.Error("a Del of nothing writes")
		}
		b = mustLoad(t, p, numbered(19, 10, 70))
	}
}

// P6.2: a Put of a key that is there makes it have the other value, of whatever size.
func TestPutAgain(t *testing.T) {
	p, _ := newPager(t, 4000)
	l := numbered(30, 24, 40)
	b := mustLoad(t, p, l)
	want := mapOf(l)
	for _, size := range []int{80, 0, 80, 1, 40} {
		for _, pair := range l {
			val := strings.Repeat("v", size)
			mustPut(t, b, pair.Key, val)
			want[pair.Key] = val
			wantTree(t, b, want)
		}
	}
}

// P6.2: Each tells the pairs that are not ahead of from, and ahead of to.
func TestEach(t *testing.T) {
	p, _ := newPager(t, 100)
	small := mustLoad(t, p, []api.Pair{{Key: "b", Val: []byte("1")}, {Key: "bb", Val: []byte("2")}, {Key: "d", Val: []byte("3")}})
	for _, c := range []struct{ from, to, want string }{
		{"", "", "b=1 bb=2 d=3"},
		{"a", "", "b=1 bb=2 d=3"},
		{"b", "", "b=1 bb=2 d=3"},
		{"b\x00", "", "bb=2 d=3"},
		{"d", "", "d=3"},
		{"e", "", ""},
		{"", "a", ""},
		{"", "b", ""},
		{"", "b\x00", "b=1"},
		{"", "d", "b=1 bb=2"},
		{"", "e", "b=1 bb=2 d=3"},
		{"bb", "bb", ""},
		{"bb", "bc", "bb=2"},
		{"d", "b", ""},
		{strings.Repeat("c", 100), strings.Repeat("d", 100), "d=3"},
	} {
		if got := told(small, c.from, c.to); got != c.want {
			t.Errorf("Each(%q, %q): %s; want %s", c.from, c.to, got, c.want)
		}
	}
	l := numbered(90, 6, 50)
	great := mustLoad(t, p, l)
	for from := -1; from <= 90; from++ {
		for to := -1; to <= 90; to++ {
			lower, upper := bound(l, from), bound(l, to)
			var want []string
			for _, pair := range l {
				if pair.Key >= lower && (upper == "" || pair.Key < upper) {
					want = append(want, fmt.Sprintf("%s=%s", pair.Key, pair.Val))
				}
			}
			if got := told(great, lower, upper); got != strings.Join(want, " ") {
				t.Fatalf("Each(%q, %q): %s", lower, upper, got)
			}
		}
	}
}

// bound is the key of a pair, or one that is ahead of all or behind them.
func bound(l []api.Pair, i int) string {
	switch i {
	case -1:
		return ""
	case len(l):
		return "z"
	}
	return l[i].Key
}

// P6.2: Each reads no more pages than it must: a page of keys ahead of from, or not ahead of to, may be any.
func TestEachBesideDamage(t *testing.T) {
	p, d := newPager(t, 100)
	l := numbered(20, 24, 80)
	b := mustLoad(t, p, l)
	leaves := len(l) / 2
	d.Write(2+leaves-1, nil)
	d.Write(2, nil)
	if got, want := told(b, l[2].Key, l[18].Key), len(l)-4; strings.Count(got, "=") != want {
		t.Errorf("Each beside damage: %d pairs, want %d", strings.Count(got, "="), want)
	}
	if got := told(b, l[2].Key, ""); strings.Count(got, "=") != len(l)-4 {
		t.Errorf("Each up to damage: %d pairs", strings.Count(got, "="))
	}
	if got := told(b, l[1].Key, ""); got != "" {
		t.Errorf("Each from damage on: %s", got)
	}
}

// P6.2: Each ends where its caller ends it, and goes again from the beginning.
func TestEachEnds(t *testing.T) {
	p, _ := newPager(t, 100)
	b := mustLoad(t, p, numbered(50, 10, 60))
	each := b.Each("", "")
	for stop := range 50 {
		n := 0
		for range each {
			if n++; n > stop {
				break
			}
		}
		if n != stop+1 {
			t.Errorf("%d pairs, want %d", n, stop+1)
		}
	}
}

// P6.2: Each tells the tree as it was when Each was called, even if its pages hold other things by now.
func TestEachAsItWas(t *testing.T) {
	p, _ := newPager(t, 40)
	b := mustLoad(t, p, []api.Pair{{Key: "a", Val: []byte("1")}, {Key: "b", Val: []byte("2")}})
	each := b.Each("", "")
	mustPut(t, b, "a", "3")
	mustDel(t, b, "b", true)
	mustFlip(t, p, b)
	for i := range 60 {
		mustPut(t, b, "c", fmt.Sprint(i))
		mustFlip(t, p, b)
	}
	var got []string
	for k, v := range each {
		got = append(got, k+string(v))
	}
	if s := strings.Join(got, " "); s != "a1 b2" {
		t.Errorf("Each: %s", s)
	}
}

// P6.2: while Each goes through a tree, the tree may change.
func TestChangeWithinEach(t *testing.T) {
	p, _ := newPager(t, 1000)
	l := numbered(40, 10, 60)
	b := mustLoad(t, p, l)
	n := 0
	for k, v := range b.Each("", "") {
		if k != l[n].Key || !bytes.Equal(v, l[n].Val) {
			t.Errorf("the pair %d is %s", n, k)
		}
		mustDel(t, b, k, true)
		mustPut(t, b, "z"+k, "new")
		n++
	}
	if n != len(l) {
		t.Errorf("%d pairs", n)
	}
	if m, _ := b.Len(); m != len(l) || b.Right() != api.OK {
		t.Errorf("Len: %d", m)
	}
}

// P6.2: an error of the pager is the call's, and the tree is as it was.
func TestFullPager(t *testing.T) {
	p, d := newPager(t, 12)
	b := mustNew(t, p, -1)
	want := map[string]string{}
	why := api.OK
	for n := 0; why == api.OK; n++ {
		key, val := fmt.Sprintf("%024d", n), strings.Repeat("v", 40)
		if why = b.Put(key, []byte(val)); why == api.OK {
			want[key] = val
		}
	}
	if why != api.ErrFull || len(want) < 5 {
		t.Fatalf("Put: %d, behind %d keys", why, len(want))
	}
	wantTree(t, b, want)
	for p.Free() > 0 {
		mustWrite(t, p, nil)
	}
	last := fmt.Sprintf("%024d", len(want)-1)
	if was, why := b.Del(last); was || why != api.ErrFull {
		t.Errorf("Del: %v, %d", was, why)
	}
	if why := b.Put(last, nil); why != api.ErrFull {
		t.Errorf("Put: %d", why)
	}
	wantTree(t, b, want)
	mustFlip(t, p, b)
	mustPut(t, b, "1", "room again")
	want["1"] = "room again"
	wantTree(t, b, want)
	d.Fail()
	if why := p.Flip(b.Root(), 1, nil, nil); why != api.ErrSync {
		t.Errorf("Flip: %d", why)
	}
	if why := b.Put("2", nil); why != api.ErrDead {
		t.Errorf("Put on a dead pager: %d", why)
	}
	if why := b.Put("", nil); why != api.ErrArg {
		t.Errorf("Put of no key on a dead pager: %d", why)
	}
	if was, why := b.Del("1"); was || why != api.ErrDead {
		t.Errorf("Del on a dead pager: %v, %d", was, why)
	}
	wantTree(t, b, want)
}

// P6.2: a Put that fails on a later page than the first takes back what it wrote.
func TestTakenBack(t *testing.T) {
	l := numbered(20, 24, 80)
	for free := 0; ; free++ {
		p, _ := newPager(t, 40)
		b := mustLoad(t, p, l)
		mustFlip(t, p, b)
		for p.Free() > free {
			mustWrite(t, p, nil)
		}
		// Three levels, of which the lower two are full: two pages each, and the root.
		why := b.Put("0", make([]byte, 80))
		if why == api.OK {
			if free != 5 {
				t.Errorf("the Put needs %d pages", free)
			}
			break
		}
		if why != api.ErrFull || p.Free() != free {
			t.Errorf("Put with %d pages free: %d, and %d are", free, why, p.Free())
		}
		wantTree(t, b, mapOf(l))
	}
}

// The rules 4 and 5: nothing that is handed in is kept or changed, nothing that is answered is shared.
func TestMemory(t *testing.T) {
	p, _ := newPager(t, 40)
	val := []byte("value")
	l := []api.Pair{{Key: "a", Val: []byte("first")}}
	b := mustLoad(t, p, l)
	if why := b.Put("b", val); why != api.OK {
		t.Fatalf("Put: %d", why)
	}
	if string(val) != "value" || l[0].Key != "a" || string(l[0].Val) != "first" {
		t.Error("what was handed in is changed")
	}
	copy(val, "xxxxx")
	copy(l[0].Val, "xxxxx")
	want := map[string]string{"a": "first", "b": "value"}
	wantTree(t, b, want)
	got, _, _ := b.Get("a")
	_ = append(got[:0], "yyyyyyyy"...)
	wantTree(t, b, want)
	each := b.Each("", "")
	for range 2 {
		n := 0
		for k, v := range each {
			if string(v) != want[k] {
				t.Errorf("Each: %s %s", k, v)
			}
			_ = append(v[:0], "zzzzzzzz"...)
			n++
		}
		if n != 2 {
			t.Errorf("Each: %d pairs", n)
		}
	}
	pages := mustPages(t, b)
	pages[0] = 99
	wantTree(t, b, want)
}
