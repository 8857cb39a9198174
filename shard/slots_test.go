package shard

import (
	"bytes"
	"fmt"
	"math"
	"slices"
	"strings"
	"testing"

	"almoner/api"
)

// notSlots is numbers of which there is no slot.
var notSlots = []int{math.MinInt, -1, 16, math.MaxInt}

// ofSlot0 is a shard with accounts, answers and done ones of the slot 0 (ann, fay) and of another one (bob, eve).
func ofSlot0(t *testing.T) *Shard {
	t.Helper()
	s := with(t, 2,
		open("fay", "z"), open("fay", "o"), open("ann", "o"), open("bob", "o"), deposit("fay", 7, "d"), deposit("bob", 5, "d"),
		deposit("bob", 1, "o"), transfer("ann", "bob", 1, "t"), transfer("fay", "ann", 3, "t"))
	wantWhy(t, s, finish("y", "fay", api.ErrNone), api.OK)
	wantWhy(t, s, finish("x", "bob", api.ErrNone), api.OK)
	wantWhy(t, s, prepare("a", "ann", 2), api.OK)
	wantWhy(t, s, finish("a", "ann", api.OK), api.OK)
	return s
}

// cargo0 is what moves with the slot 0 of that shard.
func cargo0() []byte {
	return moved([]holding{{"ann", 5, ""}, {"fay", 4, ""}}, []answer{
		{open("ann", "o"), api.OK},
		{transfer("ann", "bob", 1, "t"), api.ErrFunds},
		{deposit("fay", 7, "d"), api.OK},
		{open("fay", "o"), api.ErrTwice},
		{transfer("fay", "ann", 3, "t"), api.OK},
		{open("fay", "z"), api.OK},
	}, []part{{"y", "fay"}, {"a", "ann"}})
}

// P13.2: what Hold answers, by the first error where several apply, and what moves with a slot.
func TestHold(t *testing.T) {
	s := ofSlot0(t)
	for _, slot := range notSlots {
		wantRefused(t, s, hold(slot, 1), api.ErrArg)
	}
	wantRefused(t, s, hold(1, 1), api.ErrState)
	for _, epoch := range []int64{math.MinInt64, -1, 0} {
		wantRefused(t, s, hold(0, epoch), api.ErrState)
	}
	want(t, s, hold(0, 1), Result{Data: cargo0()})
	if s.Busy() != 1 || !s.Owns("ann") {
		t.Errorf("Busy %d, Owns %v", s.Busy(), s.Owns("ann"))
	}
	wantStill(t, s, hold(0, 1), Result{Data: cargo0()})
	want(t, s, hold(2, 9), Result{Data: moved(nil, nil, nil)})
	if s.Busy() != 2 {
		t.Errorf("Busy %d", s.Busy())
	}
	// Another epoch takes the place of the one that it is held back by, be it above or below.
	want(t, s, hold(2, 3), Result{Data: moved(nil, nil, nil)})
	wantRefused(t, s, drop(2, 9), api.ErrState)
	wantWhy(t, s, drop(2, 3), api.OK)
}

// P13.2: a slot is held back while an account of it is held, and told once none is.
func TestHoldWaits(t *testing.T) {
	s := with(t, 2, open("ann", "o"), deposit("ann", 5, "d"), open("fay", "o"), open("bob", "o"), deposit("bob", 5, "d"))
	wantWait(t, s, transfer("ann", "dora", 2, "k"))
	wantWait(t, s, transfer("bob", "dora", 2, "k"))
	wantWhy(t, s, prepare("x", "fay", 1), api.OK)
	wantWhy(t, s, hold(0, 4), api.ErrRetry)
	if s.Busy() != 4 {
		t.Errorf("Busy %d", s.Busy())
	}
	wantRefused(t, s, drop(0, 4), api.ErrState)
	want(t, s, decide("ann/k/1.1", api.OK), Result{})
	wantRefused(t, s, hold(0, 4), api.ErrRetry)
	wantWhy(t, s, finish("x", "fay", api.OK), api.OK)
	want(t, s, hold(0, 4), Result{Data: moved([]holding{{"ann", 3, ""}, {"fay", 1, ""}}, []answer{
		{deposit("ann", 5, "d"), api.OK},
		{transfer("ann", "dora", 2, "k"), api.OK},
		{open("ann", "o"), api.OK},
		{open("fay", "o"), api.OK},
	}, []part{{"x", "fay"}})})
	wantWhy(t, s, drop(0, 4), api.OK)
	// The transfer is not finished yet: it stays, and its answer has gone.
	wantTxns(t, s, Txn{Id: "ann/k/1.1", From: "ann", Key: "k", To: "dora", N: 2, Done: true}, Txn{Id: "bob/k/1.2", From: "bob", Key: "k", To: "dora", N: 2})
	wantRows(t, s, "bob=3")
}

// P13.2, P13.7: what Drop answers, and what it takes away.
func TestDrop(t *testing.T) {
	s := ofSlot0(t)
	for _, slot := range notSlots {
		wantRefused(t, s, drop(slot, 1), api.ErrArg)
	}
	for _, epoch := range []int64{math.MinInt64, -1, 0, 1} {
		wantRefused(t, s, drop(0, epoch), api.ErrState)
	}
	wantRefused(t, s, drop(1, 1), api.ErrState)
	wantRefused(t, s, drop(1, 0), api.OK)
	wantRefused(t, s, drop(1, -1), api.OK)
	want(t, s, hold(0, 5), Result{Data: cargo0()})
	wantRefused(t, s, drop(0, 4), api.ErrState)
	wantRefused(t, s, drop(0, 6), api.ErrState)
	wantRefused(t, s, drop(0, 0), api.ErrState)
	wantWhy(t, s, drop(0, 5), api.OK)
	wantRefused(t, s, drop(0, 5), api.OK)
	wantRefused(t, s, drop(0, 4), api.OK)
	wantRefused(t, s, drop(0, 6), api.ErrState)
	d := first(1, 2)
	d.owns[0], d.epoch[0] = false, 5
	d.accounts = []holding{{"bob", 5, ""}}
	d.kept = []answer{{deposit("bob", 5, "d"), api.OK}, {open("bob", "o"), api.OK}}
	d.done = []part{{"x", "bob"}}
	if got := s.Image(); !bytes.Equal(got, d.bytes()) {
		t.Errorf("Image %x; want %x", got, d.bytes())
	}
	if s.Busy() != 0 || s.Owns("ann") {
		t.Errorf("Busy %d, Owns %v", s.Busy(), s.Owns("ann"))
	}
	wantRefused(t, s, hold(0, 6), api.ErrState)
	wantOp(t, s, open("ann", "o"), api.ErrRetry)
}

// P13.2: a slot that is not its own is not dropped, even if an image says that it is held back.
func TestDropOfAnother(t *testing.T) {
	d := first(1, 2)
	d.held[1] = 5
	s := mustLoad(t, d)
	wantRefused(t, s, drop(1, 5), api.ErrState)
	wantRefused(t, s, drop(1, 0), api.OK)
}

// P13.2, P13.7: a slot comes piece by piece, whatever the pieces.
func TestInstall(t *testing.T) {
	data := cargo0()
	for _, size := range []int{1, 7, 50, len(data) - 1, len(data), len(data) + 5} {
		s := mustNew(t, 2, 2)
		wantOp(t, s, open("dora", "o"), api.OK)
		for at := 0; at < len(data); at += size {
			to := min(at+size, len(data))
			c := install(0, 3, at, to == len(data), data[at:to])
			wantWhy(t, s, c, api.OK)
			if to < len(data) && at > 0 {
				wantRefused(t, s, c, api.ErrState)
			}
			if c.Last {
				wantRefused(t, s, c, api.OK)
			}
		}
		d := first(2, 2)
		d.owns[0], d.epoch[0] = true, 3
		d.accounts = []holding{{"ann", 5, ""}, {"dora", 0, ""}, {"fay", 4, ""}}
		d.kept = []answer{{open("ann", "o"), api.OK}, {transfer("ann", "bob", 1, "t"), api.ErrFunds}, {open("dora", "o"), api.OK}, {deposit("fay", 7, "d"), api.OK}, {open("fay", "o"), api.ErrTwice}, {transfer("fay", "ann", 3, "t"), api.OK}, {open("fay", "z"), api.OK}}
		d.done = []part{{"y", "fay"}, {"a", "ann"}}
		if got := s.Image(); !bytes.Equal(got, d.bytes()) {
			t.Fatalf("pieces of %d: image %x; want %x", size, got, d.bytes())
		}
		wantOpStill(t, s, transfer("ann", "bob", 1, "t"), api.ErrFunds)
		wantRefused(t, s, prepare("y", "ann", 1), api.ErrState)
		want(t, s, hold(0, 4), Result{Data: data})
	}
}

// P13.2: what Install answers, by the first error where several apply.
func TestInstallRefuses(t *testing.T) {
	empty := moved(nil, nil, nil)
	s := mustNew(t, 1, 2)
	for _, slot := range notSlots {
		wantRefused(t, s, install(slot, 1, 0, true, empty), api.ErrArg)
		wantRefused(t, s, install(slot, 0, -1, true, empty), api.ErrArg)
	}
	wantRefused(t, s, install(1, 0, -1, true, empty), api.ErrArg)
	wantRefused(t, s, install(0, 1, math.MinInt, true, empty), api.ErrArg)
	for _, epoch := range []int64{math.MinInt64, -1, 0} {
		wantRefused(t, s, install(0, epoch, 0, true, empty), api.OK)
		wantRefused(t, s, install(1, epoch, 9, true, empty), api.OK)
	}
	wantRefused(t, s, install(0, 1, 0, true, empty), api.ErrState)
	wantRefused(t, s, install(0, 1, 5, true, empty), api.ErrState)
	wantRefused(t, s, install(1, 1, 5, true, empty), api.ErrState)
	wantRefused(t, s, install(1, 1, math.MaxInt, true, empty), api.ErrState)
	wantWhy(t, s, install(1, 1, 0, false, []byte("abc")), api.OK)
	wantRefused(t, s, install(1, 2, 3, false, []byte("abc")), api.ErrState)
	wantRefused(t, s, install(1, 1, 2, false, []byte("abc")), api.ErrState)
	wantRefused(t, s, install(1, 1, 4, false, []byte("abc")), api.ErrState)
	wantRefused(t, s, install(3, 1, 3, false, []byte("abc")), api.ErrState)
	wantRefused(t, s, install(1, 1, 3, false, nil), api.OK)
	// From the first byte on, it comes anew, of another epoch, too.
	wantWhy(t, s, install(1, 1, 0, false, empty[:1]), api.OK)
	wantWhy(t, s, install(1, 5, 0, false, empty[:2]), api.OK)
	wantRefused(t, s, install(1, 1, 2, true, empty[2:]), api.ErrState)
	wantWhy(t, s, install(1, 5, 2, true, empty[2:]), api.OK)
	wantRefused(t, s, install(1, 5, 0, true, []byte("no")), api.OK)
	wantRefused(t, s, install(1, 6, 0, true, empty), api.ErrState)
	d := first(1, 2)
	d.owns[1], d.epoch[1] = true, 5
	if got := s.Image(); !bytes.Equal(got, d.bytes()) {
		t.Errorf("Image %x; want %x", got, d.bytes())
	}
}

// P13.2: the most that can come of a slot.
func TestInstallSize(t *testing.T) {
	s := mustNew(t, 1, 2)
	all := make([]byte, api.MaxBytes)
	wantWhy(t, s, install(1, 1, 0, false, all[1:]), api.OK)
	wantRefused(t, s, install(1, 1, len(all)-1, false, all[:2]), api.ErrSize)
	wantRefused(t, s, install(1, 1, len(all)-1, true, all[:2]), api.ErrSize)
	wantWhy(t, s, install(1, 1, len(all)-1, false, all[:1]), api.OK)
	wantRefused(t, s, install(1, 1, len(all), true, all[:1]), api.ErrSize)
	if again, why := Load(s.Image()); why != api.OK || !bytes.Equal(again.Image(), s.Image()) {
		t.Errorf("Load: %d", why)
	}
	// From the first byte on, what has come is nothing, even if that is too much.
	wantWhy(t, s, install(1, 2, 0, false, append(all, 0)), api.ErrSize)
	d := first(1, 2)
	d.come[1].epoch = 2
	if got := s.Image(); !bytes.Equal(got, d.bytes()) {
		t.Errorf("Image has %d bytes; want %x", len(got), d.bytes())
	}
	wantWhy(t, s, install(1, 2, 0, false, all), api.OK)
	wantWhy(t, s, install(1, 2, len(all), true, nil), api.ErrForm)
}

// P13.2, P1: bytes that are not what moves with a slot.
func TestInstallForm(t *testing.T) {
	good := cargo0()
	ok := []answer{{open("ann", "o"), api.OK}}
	change := func(o api.Op, do func(o *api.Op)) []answer { do(&o); return []answer{{o, api.OK}} }
	for _, c := range []struct {
		what string
		data []byte
	}{
		{"nothing", nil},
		{"a byte less", good[:len(good)-1]},
		{"a byte more", append(slices.Clone(good), 0)},
		{"a count in no form", append([]byte{0x80, 0}, good...)},
		{"too many accounts", append([]byte{0xc9, 1}, make([]byte, 5000)...)},
		{"an account twice", moved([]holding{{"ann", 1, ""}, {"ann", 1, ""}}, nil, nil)},
		{"accounts not in order", moved([]holding{{"fay", 1, ""}, {"ann", 1, ""}}, nil, nil)},
		{"an amount below 0", moved([]holding{{"ann", -1, ""}}, nil, nil)},
		{"an account that is held", moved([]holding{{"ann", 1, ""}, {"fay", 1, "x"}}, nil, nil)},
		{"an account without a name", moved([]holding{{"", 1, ""}}, nil, nil)},
		{"an account of another slot", moved([]holding{{"ann", 1, ""}, {"bob", 1, ""}}, nil, nil)},
		{"accounts of another slot", moved([]holding{{"bob", 1, ""}}, nil, nil)},
		{"answers not in order", moved(nil, []answer{{open("fay", "o"), 0}, {open("ann", "o"), 0}}, nil)},
		{"answers with their keys not in order", moved(nil, []answer{{open("ann", "p"), 0}, {open("ann", "o"), 0}}, nil)},
		{"an answer twice", moved(nil, append(ok, ok...), nil)},
		{"another answer for the same key", moved(nil, append(ok, answer{deposit("ann", 1, "o"), 0}), nil)},
		{"an answer of another slot", moved(nil, []answer{{open("ann", "o"), 0}, {open("bob", "o"), 0}}, nil)},
		{"an answer to Balance", moved(nil, []answer{{balance("ann"), 0}}, nil)},
		{"an answer to Balance with a key", moved(nil, change(open("ann", "o"), func(o *api.Op) { o.Kind = api.Balance }), nil)},
		{"an answer to no kind", moved(nil, change(open("ann", "o"), func(o *api.Op) { o.Kind = 0 }), nil)},
		{"an answer to Open with an amount", moved(nil, change(open("ann", "o"), func(o *api.Op) { o.Amount = 1 }), nil)},
		{"an answer to Open with To", moved(nil, change(open("ann", "o"), func(o *api.Op) { o.To = "bob" }), nil)},
		{"an answer to Deposit with To", moved(nil, change(deposit("ann", 1, "o"), func(o *api.Op) { o.To = "bob" }), nil)},
		{"an answer to Deposit of nothing", moved(nil, []answer{{deposit("ann", 0, "o"), 0}}, nil)},
		{"an answer to Withdraw without a key", moved(nil, []answer{{withdraw("ann", 1, ""), 0}}, nil)},
		{"an answer to Transfer of nothing", moved(nil, []answer{{transfer("ann", "bob", 0, "o"), 0}}, nil)},
		{"an answer to Transfer with a slot", moved(nil, change(transfer("ann", "bob", 1, "o"), func(o *api.Op) { o.Slot = 1 }), nil)},
		{"an answer to Transfer with a shard", moved(nil, change(transfer("ann", "bob", 1, "o"), func(o *api.Op) { o.Shard = 1 }), nil)},
		{"an answer ErrRetry", moved(nil, []answer{{open("ann", "o"), api.ErrRetry}}, nil)},
		{"a done one of another slot", moved(nil, nil, []part{{"x", "ann"}, {"x", "bob"}})},
		{"a done one of no account of the slot", moved(nil, nil, []part{{"ann", "dora"}})},
	} {
		s := mustNew(t, 2, 2)
		was := s.Image()
		wantWhy(t, s, install(0, 1, 0, true, c.data), api.ErrForm)
		if !bytes.Equal(s.Image(), was) {
			t.Errorf("%s: something has come: %x", c.what, s.Image())
		}
		// So it is, too, if it came in two pieces.
		cut := len(c.data) / 2
		wantWhy(t, s, install(0, 1, 0, false, c.data[:cut]), api.OK)
		wantWhy(t, s, install(0, 1, cut, true, c.data[cut:]), api.ErrForm)
		if !bytes.Equal(s.Image(), was) {
			t.Errorf("%s in two pieces: something has come: %x", c.what, s.Image())
		}
		if t.Failed() {
			t.Fatal(c.what)
		}
	}
	for _, data := range [][]byte{
		moved(nil, []answer{{transfer("ann", "bob", 1, "o"), -7}}, nil),
		moved(nil, []answer{{transfer("ann", "bob", 1, "o"), api.ErrState}, {open("fay", "o"), api.OK}}, nil),
		moved([]holding{{"ann", math.MaxInt64, ""}}, nil, []part{{"", "ann"}, {"x", "fay"}, {"x", "fay"}, {strings.Repeat("x", 90), "zoe"}}),
	} {
		s := mustNew(t, 2, 2)
		wantWhy(t, s, install(0, 1, 0, true, data), api.OK)
		want(t, s, hold(0, 2), Result{Data: data})
	}
}

// P13.2: a slot that there is no room for does not come; one that fills all the room does.
func TestInstallFull(t *testing.T) {
	many := func(n int) (l []holding) {
		for i := range n {
			l = append(l, holding{name: fmt.Sprintf("m%03d", i)})
		}
		return l
	}
	answers := func(n int) (l []answer) {
		for i := range n {
			l = append(l, answer{open("dora", fmt.Sprintf("k%03d", i)), api.OK})
		}
		return l
	}
	parts := func(n int) (l []part) {
		for i := range n {
			l = append(l, part{fmt.Sprint("x", i), "dora"})
		}
		return l
	}
	txns := []Txn{{Id: "a", From: "dora", Key: "t", To: "ann", N: 1}, {Id: "b", From: "hal", Key: "t", To: "ann", N: 1, Done: true}}
	waiting := []awaited{{part{"p", "dora"}, 1}, {part{"q", "hal"}, 1}, {part{"r", "quin"}, 1}}
	data := cargo0() // 2 accounts, 6 answers, 2 done ones
	for _, c := range []struct {
		what string
		do   func(d *draft)
		why  api.Errno
	}{
		{"as many accounts as can be", func(d *draft) { d.accounts = many(api.MaxRows - 2) }, api.OK},
		{"an account too many", func(d *draft) { d.accounts = many(api.MaxRows - 1) }, api.ErrFull},
		{"all accounts", func(d *draft) { d.accounts = many(api.MaxRows) }, api.ErrFull},
		{"as many answers as can be", func(d *draft) { d.kept = answers(api.MaxKept - 6) }, api.OK},
		{"an answer too many", func(d *draft) { d.kept = answers(api.MaxKept - 5) }, api.ErrFull},
		{"as many answers and transfers as can be", func(d *draft) { d.kept, d.transfers = answers(api.MaxKept-8), txns }, api.OK},
		{"a transfer too many", func(d *draft) { d.kept, d.transfers = answers(api.MaxKept-7), txns }, api.ErrFull},
		{"as many done ones as can be", func(d *draft) { d.done = parts(api.MaxKept - 2) }, api.OK},
		{"a done one too many", func(d *draft) { d.done = parts(api.MaxKept - 1) }, api.ErrFull},
		{"as many done and prepared ones as can be", func(d *draft) { d.done, d.prepared = parts(api.MaxKept-5), waiting }, api.OK},
		{"a prepared one too many", func(d *draft) { d.done, d.prepared = parts(api.MaxKept-4), waiting }, api.ErrFull},
	} {
		d := first(2, 2)
		c.do(&d)
		s := mustLoad(t, d)
		was := s.Image()
		if got := s.Do(install(0, 1, 0, true, data)); !same(got, Result{Why: c.why}) {
			t.Errorf("%s: %+v, want %d", c.what, got, c.why)
			continue
		}
		if c.why != api.OK && !bytes.Equal(s.Image(), was) {
			t.Errorf("%s: something has come: %x", c.what, s.Image())
		}
		if c.why == api.OK != s.Owns("ann") {
			t.Errorf("%s: Owns %v", c.what, s.Owns("ann"))
		}
	}
	// Bytes that are no slot's are told first.
	d := first(2, 2)
	d.accounts = many(api.MaxRows)
	wantWhy(t, mustLoad(t, d), install(0, 1, 0, true, moved([]holding{{"bob", 1, ""}}, nil, nil)), api.ErrForm)
}

// P13.2: answers, done ones and transfers go with a slot, there and back.
func TestThereAndBack(t *testing.T) {
	a, b := ofSlot0(t), mustNew(t, 2, 2)
	was := a.Image()
	for epoch := int64(1); epoch <= 4; epoch++ {
		data := a.Do(hold(0, epoch)).Data
		wantWhy(t, b, install(0, epoch, 0, true, data), api.OK)
		wantWhy(t, a, drop(0, epoch), api.OK)
		if a.Owns("ann") || !b.Owns("ann") || a.Busy() != 0 || b.Busy() != 0 {
			t.Fatalf("epoch %d: Owns %v, %v, Busy %d, %d", epoch, a.Owns("ann"), b.Owns("ann"), a.Busy(), b.Busy())
		}
		a, b = b, a
	}
	d := first(1, 2)
	d.epoch[0] = 4
	d.accounts = []holding{{"ann", 5, ""}, {"bob", 5, ""}, {"fay", 4, ""}}
	d.kept = append([]answer{{open("ann", "o"), api.OK}, {transfer("ann", "bob", 1, "t"), api.ErrFunds}, {deposit("bob", 5, "d"), api.OK}, {open("bob", "o"), api.OK}},
		answer{deposit("fay", 7, "d"), api.OK}, answer{open("fay", "o"), api.ErrTwice}, answer{transfer("fay", "ann", 3, "t"), api.OK}, answer{open("fay", "z"), api.OK})
	d.done = []part{{"x", "bob"}, {"y", "fay"}, {"a", "ann"}}
	if got := a.Image(); !bytes.Equal(got, d.bytes()) || bytes.Equal(got, was) {
		t.Errorf("Image %x; want %x", got, d.bytes())
	}
}
