package shard

import (
	"bytes"
	"fmt"
	"math"
	"math/rand"
	"slices"
	"testing"

	"almoner/api"
)

// rich is a draft of a shard that has something of everything.
func rich() draft {
	d := first(1, 2)
	d.epoch[0], d.epoch[4], d.held[4] = 3, 1, 2
	d.owns[1], d.epoch[1] = true, 7
	d.accounts = []holding{{"ann", 5, "ann/t/1.2"}, {"bob", 0, ""}, {"dora", math.MaxInt64, "x/y/2.1"}, {"eve", 1, "z/y/2.1"}}
	d.kept = []answer{{deposit("ann", 5, "d"), api.OK}, {open("ann", "o"), api.OK}, {transfer("ann", "gil", 2, "s"), api.ErrNone}, {withdraw("bob", 9, "w"), api.ErrFunds}}
	d.transfers = []Txn{{Id: "ann/s/1.1", From: "ann", Key: "s", To: "gil", N: 2, Done: true, Why: api.ErrNone}, {Id: "ann/t/1.2", From: "ann", Key: "t", To: "gil", N: 3}}
	d.prepared = []awaited{{part{"x/y/2.1", "dora"}, 1}, {part{"z/y/2.1", "eve"}, 2}}
	d.done = []part{{"q", "bob"}, {"b", "ann"}}
	d.frozen, d.over, d.began = 9, 8, 2
	d.come[3] = arrival{4, []byte("some bytes")}
	d.come[15] = arrival{1, nil}
	return d
}

// wantLoad asks what Load answers to a draft's bytes; what it takes is written as it was.
func wantLoad(t *testing.T, what string, d draft, want api.Errno) {
	t.Helper()
	b := d.bytes()
	s, why := Load(b)
	if why != want || (s == nil) != (want != api.OK) {
		t.Errorf("Load of %s: %v, %d; want %d", what, s, why, want)
		return
	}
	if s != nil && !bytes.Equal(s.Image(), b) {
		t.Errorf("Load of %s: image %x; want %x", what, s.Image(), b)
	}
}

// P13.3, P13.6, P7: which images Load takes, at the edges that the document names.
func TestLoad(t *testing.T) {
	long := make([]byte, api.MaxBytes)
	for _, c := range []struct {
		what string
		do   func(d *draft)
		ok   bool
	}{
		{"all", func(d *draft) {}, true},
		{"the shard 0", func(d *draft) { d.me = 0 }, false},
		{"the shard 2", func(d *draft) { d.me = 2 }, true},
		{"the shard 3 of 2", func(d *draft) { d.me = 3 }, false},
		{"a shard below 0", func(d *draft) { d.me = math.MinInt64 }, false},
		{"the shard 3 of 3", func(d *draft) { d.me, d.shards = 3, 3 }, true},
		{"no shards", func(d *draft) { d.me, d.shards = 0, 0 }, false},
		{"four shards", func(d *draft) { d.shards = 4 }, false},
		{"shards below 0", func(d *draft) { d.shards = -1 }, false},
		{"epochs of any number", func(d *draft) { d.epoch[5], d.held[6], d.come[7].epoch = math.MinInt64, math.MaxInt64, -1 }, true},
		{"no slots", func(d *draft) { d.owns = [16]bool{} }, true},
		{"accounts not in order", func(d *draft) { slices.Reverse(d.accounts) }, false},
		{"an account twice", func(d *draft) { d.accounts[0] = d.accounts[1] }, false},
		{"an amount below 0", func(d *draft) { d.accounts[1].amount = -1 }, false},
		{"an account with no right name", func(d *draft) { d.accounts[0].name = "Ann" }, false},
		{"accounts of any slot, held by anybody", func(d *draft) { d.accounts[1] = holding{"carl", 1, "nobody"} }, true},
		{"answers not in order", func(d *draft) { d.kept[0], d.kept[1] = d.kept[1], d.kept[0] }, false},
		{"answers of other accounts not in order", func(d *draft) { d.kept[2], d.kept[3] = d.kept[3], d.kept[2] }, false},
		{"an answer twice", func(d *draft) { d.kept[1] = d.kept[0] }, false},
		{"an answer to Balance", func(d *draft) { d.kept[0].op.Kind = api.Balance }, false},
		{"an answer to a kind below", func(d *draft) { d.kept[1].op.Kind = 0 }, false},
		{"an answer to Open with an amount", func(d *draft) { d.kept[1].op.Amount = 1 }, false},
		{"an answer to Withdraw with To", func(d *draft) { d.kept[3].op.To = "ann" }, false},
		{"an answer with a slot", func(d *draft) { d.kept[0].op.Slot = 1 }, false},
		{"an answer with a shard", func(d *draft) { d.kept[2].op.Shard = 1 }, false},
		{"an answer to Deposit of nothing", func(d *draft) { d.kept[0].op.Amount = 0 }, false},
		{"an answer to Transfer of nothing", func(d *draft) { d.kept[2].op.Amount = 0 }, false},
		{"an answer to Open without a key", func(d *draft) { d.kept = []answer{{open("ann", ""), 0}} }, false},
		{"an answer ErrRetry", func(d *draft) { d.kept[2].why = api.ErrRetry }, false},
		{"an answer of any number", func(d *draft) { d.kept[2].why = math.MinInt }, true},
		{"a transfer of nothing", func(d *draft) { d.transfers[1].N = 0 }, false},
		{"a transfer of less than nothing", func(d *draft) { d.transfers[0].N = math.MinInt64 }, false},
		{"transfers of any texts, one twice", func(d *draft) {
			d.transfers = []Txn{{N: 1}, {N: 1}, {Id: "\xff", From: "A", Key: string(long), To: "", N: math.MaxInt64, Done: true, Why: -1}}
		}, true},
		{"prepared ones not in order", func(d *draft) { d.prepared[0].id = "zz" }, false},
		{"prepared ones of one id not in order", func(d *draft) { d.prepared[1].part = part{"x/y/2.1", "bob"} }, false},
		{"prepared ones of one id in order", func(d *draft) { d.prepared[1].part = part{"x/y/2.1", "eve"} }, true},
		{"a prepared one twice", func(d *draft) { d.prepared[1] = d.prepared[0] }, false},
		{"a prepared one of nothing", func(d *draft) { d.prepared[1].n = 0 }, false},
		{"prepared ones of any texts", func(d *draft) { d.prepared[0].part = part{} }, true},
		{"done ones of any texts, one twice", func(d *draft) { d.done = []part{{}, {"\x00", "N"}, {}} }, true},
		{"frozen and over of any number", func(d *draft) { d.frozen, d.over = math.MinInt64, math.MaxInt64 }, true},
		{"fewer than none began", func(d *draft) { d.began = -1 }, false},
		{"none began", func(d *draft) { d.began = 0 }, true},
		{"the most began", func(d *draft) { d.began = 1 << 60 }, true},
		{"too many began", func(d *draft) { d.began = 1<<60 + 1 }, false},
		{"as much has come as can", func(d *draft) { d.come[0].data = long }, true},
	} {
		d := rich()
		c.do(&d)
		want := api.ErrForm
		if c.ok {
			want = api.OK
		}
		wantLoad(t, c.what, d, want)
	}
}

// P13.3, P1: bytes that are no image, and by which error where several apply.
func TestLoadRefuses(t *testing.T) {
	good := rich()
	wrong := rich()
	wrong.me = 0
	for _, b := range [][]byte{good.bytes(), wrong.bytes()} {
		for n := range len(b) {
			if s, why := Load(b[:n]); s != nil || why != api.ErrShort {
				t.Fatalf("Load of %d bytes: %v, %d", n, s, why)
			}
		}
		if s, why := Load(append(b, 0)); s != nil || why != api.ErrForm {
			t.Errorf("Load of a byte more: %v, %d", s, why)
		}
	}
	// head is an image up to the book, then a count.
	head := func(counts ...int) []byte {
		var w writer
		w.b = slices.Clone(first(1, 2).bytes()[:2+3*16])
		for _, n := range counts {
			w.count(n)
		}
		return w.b
	}
	room := make([]byte, 600000)
	for _, c := range []struct {
		what string
		b    []byte
		why  api.Errno
	}{
		{"nil", nil, api.ErrShort},
		{"201 accounts", append(head(201), room...), api.ErrSize},
		{"more accounts than bytes", head(200), api.ErrShort},
		{"too many answers", append(head(0, 65537), room...), api.ErrSize},
		{"too many transfers", append(head(0, 0, 65537), room...), api.ErrSize},
		{"too many prepared ones", append(head(0, 0, 0, 65537), room...), api.ErrSize},
		{"too many done ones", append(head(0, 0, 0, 0, 65537), room...), api.ErrSize},
		{"as many answers as can be counted, of no form", append(head(0, 65536), room...), api.ErrForm},
		{"more answers than bytes", head(0, 65536), api.ErrShort},
		{"200 accounts without a name", append(head(200), room...), api.ErrForm},
		{"a truth 2", append([]byte{2, 4, 2}, room...), api.ErrForm},
		{"16 MaxBytes", append(good.bytes(), make([]byte, 16*api.MaxBytes-len(good.bytes()))...), api.ErrForm},
		{"16 MaxBytes and a byte", append(good.bytes(), make([]byte, 16*api.MaxBytes+1-len(good.bytes()))...), api.ErrSize},
		{"16 MaxBytes and a byte of nothing", make([]byte, 16*api.MaxBytes+1), api.ErrSize},
	} {
		if s, why := Load(c.b); s != nil || why != c.why {
			t.Errorf("Load of %s: %v, %d; want %d", c.what, s, why, c.why)
		}
	}
}

// P13.3: as many done ones as can be counted.
func TestLoadOfMany(t *testing.T) {
	d := first(1, 2)
	d.done = make([]part, api.MaxBytes)
	wantLoad(t, "65536 done ones", d, api.OK)
	d.done = make([]part, api.MaxBytes+1)
	wantLoad(t, "65537 done ones", d, api.ErrSize)
	d = first(1, 2)
	for n := range 300 {
		d.kept = append(d.kept, answer{open("ann", fmt.Sprintf("k%03d", n)), api.ErrTwice})
	}
	wantLoad(t, "more answers than a shard gives", d, api.OK)
}

// P13.6: shards that were loaded with transfers that can not be go on, and are read again.
func TestLoadedGoOn(t *testing.T) {
	d := first(1, 1)
	d.accounts = []holding{{"ann", math.MaxInt64, "b"}, {"bob", 1, "x"}}
	d.transfers = []Txn{{Id: "a", From: "No Name", Key: "", To: "No Name", N: 1}, {Id: "b", From: "ann", Key: "k", To: "dora", N: 1}, {Id: "c", From: "eve", Key: "k", To: "dora", N: 1}}
	d.prepared = []awaited{{part{"", "bob"}, 3}, {part{"x", "ann"}, 3}}
	s := mustLoad(t, d)
	for _, c := range []Cmd{decide("a", api.OK), decide("b", api.ErrNone), decide("c", api.ErrOver)} {
		want(t, s, c, Result{Reply: api.Reply{Why: c.Why}})
	}
	// Nothing of x was prepared at bob.
	wantWhy(t, s, finish("x", "bob", api.OK), api.OK)
	wantRows(t, s, "ann=9223372036854775807 bob=1")
	if again, why := Load(s.Image()); why != api.OK || !bytes.Equal(again.Image(), s.Image()) {
		t.Errorf("Load: %d", why)
	}
}

// P13.1, P13.3: answers, arguments and copies share no memory with a shard.
func TestMemory(t *testing.T) {
	b := rich().bytes()
	s, _ := Load(b)
	want := s.Image()
	check := func(what string) {
		t.Helper()
		if got := s.Image(); !bytes.Equal(got, want) {
			t.Fatalf("%s is shared: %x; want %x", what, got, want)
		}
	}
	clear(b)
	check("what Load was given")
	clear(s.Image())
	check("Image")
	clear(s.Pending())
	check("Pending")
	_ = append(s.Pending()[:1], Txn{Id: "z"})
	check("Pending")
	clear(s.Rows())
	check("Rows")
	c := s.Copy()
	if !bytes.Equal(c.Image(), want) {
		t.Fatalf("Copy %x; want %x", c.Image(), want)
	}
	for _, x := range []Cmd{
		decide("ann/t/1.2", api.OK), end("ann/s/1.1"), finish("x/y/2.1", "dora", api.ErrNone), thaw(9), op(open("fay", "o")), op(deposit("bob", 1, "d")),
		finish("new", "bob", api.ErrNone), hold(0, 9), install(3, 4, 10, false, []byte("more")), finish("z/y/2.1", "eve", api.OK), drop(4, 2),
	} {
		s.Copy().Do(x)
		c.Do(x)
		check(fmt.Sprintf("a copy that did %+v", x))
	}
	other := c.Copy()
	c.Do(install(3, 4, 14, false, []byte("this")))
	other.Do(install(3, 4, 14, false, []byte("that")))
	if !bytes.Contains(c.Image(), []byte("some bytesmorethis")) || !bytes.Contains(other.Image(), []byte("some bytesmorethat")) {
		t.Errorf("what has come is shared: %q, %q", c.Image(), other.Image())
	}
	data := []byte("data")
	s.Do(install(5, 1, 0, false, data))
	want = s.Image()
	clear(data)
	check("what Install was given")
	moving := s.Do(hold(0, 9))
	want = s.Image()
	clear(moving.Data)
	check("what Hold answered")
	s.Do(thaw(9))
	s.Do(decide("ann/t/1.2", api.OK))
	s.Do(finish("x/y/2.1", "dora", api.ErrNone))
	s.Do(finish("z/y/2.1", "eve", api.ErrNone))
	told := s.Do(freeze(10))
	want = s.Image()
	if len(told.Reply.Rows) != 4 {
		t.Fatalf("Freeze: %+v", told)
	}
	clear(told.Reply.Rows)
	check("what Freeze answered")
}

// P13.3, P13.6, P7, P1: whatever Load takes is written as the same bytes, and goes on.
func FuzzLoad(f *testing.F) {
	f.Add([]byte{}, int64(1))
	f.Add(first(1, 1).bytes(), int64(2))
	f.Add(rich().bytes(), int64(3))
	f.Fuzz(func(t *testing.T, b []byte, seed int64) {
		s, why := Load(b)
		if (s == nil) != (why != api.OK) {
			t.Fatalf("%v beside %d", s, why)
		}
		if s == nil {
			return
		}
		if !bytes.Equal(s.Image(), b) {
			t.Fatalf("%x is written again as %x", b, s.Image())
		}
		r := rand.New(rand.NewSource(seed))
		for range 50 {
			s.Do(someCommand(r))
		}
		if again, why := Load(s.Image()); why != api.OK || !bytes.Equal(again.Image(), s.Image()) {
			t.Fatalf("Load of %x: %d", s.Image(), why)
		}
	})
}

// P13.3, P13.6, P7: an image of which bytes are changed is refused, or is the one of another shard that is written so and goes on.
func TestLoadOfChanged(t *testing.T) {
	r := rand.New(rand.NewSource(5))
	taken, left := 0, 0
	for range 4000 {
		b := rich().bytes()
		for range 1 + r.Intn(2) {
			b[r.Intn(len(b))] ^= 1 << r.Intn(8)
		}
		s, why := Load(b)
		if s == nil {
			left++
			continue
		}
		taken++
		if why != api.OK || !bytes.Equal(s.Image(), b) {
			t.Fatalf("Load of %x: %d, image %x", b, why, s.Image())
		}
		for range 30 {
			s.Do(someCommand(r))
		}
		for _, x := range s.Pending() {
			s.Do(decide(x.Id, api.Errno(r.Intn(60))))
		}
		if again, why := Load(s.Image()); why != api.OK || !bytes.Equal(again.Image(), s.Image()) {
			t.Fatalf("Load of %x: %d", s.Image(), why)
		}
	}
	if taken < 500 || left < 500 {
		t.Errorf("%d were taken, %d were not", taken, left)
	}
}
