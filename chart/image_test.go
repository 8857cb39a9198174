package chart

import (
	"bytes"
	"math"
	"math/rand"
	"slices"
	"testing"

	"almoner/api"
)

// could tells whether the numbers of an image can be a chart's, as the document lists it.
func could(l []int64) bool {
	if len(l) != numbers {
		return false
	}
	within := func(at int, low, high int64) bool { return l[at] >= low && l[at] <= high }
	shards, began := l[atShards], l[atBegan]
	if !within(atShards, 1, 3) || !within(atBegan, 0, great) {
		return false
	}
	for slot := range 16 {
		if !within(atOwner(slot), 1, shards) || !within(atEpoch(slot), 0, great) {
			return false
		}
	}
	slot, from, to, epoch, phase, n := l[atMove], l[atMove+1], l[atMove+2], l[atMove+3], l[atMove+4], l[atMove+5]
	switch {
	case phase < 0 || phase > 3:
		return false
	case phase == 0 && (slot != 0 || from != 0 || to != 0 || epoch != 0 || n != 0):
		return false
	case phase != 0:
		if !within(atMove, 0, 15) || !within(atMove+1, 1, shards) || !within(atMove+2, 1, shards) || from == to || n < 1 || n > began || epoch > great {
			return false
		}
		has := l[atEpoch(int(slot))]
		if phase < 3 && epoch <= has || phase == 3 && epoch != has {
			return false
		}
	}
	switch number := l[atAudit]; l[atAudit+1] {
	case 0:
		return number == 0
	case 1, 2:
		return number >= 1 && number <= began && phase == 0
	}
	return false
}

// wantLoad asks that Load takes the numbers of an image just if they can be, and then that the chart has them.
func wantLoad(t *testing.T, l []int64, want api.Errno) {
	t.Helper()
	b := written(l...)
	c, why := Load(b)
	if why != want || (c == nil) != (want != api.OK) {
		t.Fatalf("Load of %v: %v, %d; want %d", l, c, why, want)
	}
	if c != nil && !bytes.Equal(c.Image(), b) {
		t.Fatalf("Load of %v: the image is %v", l, read(t, c.Image()))
	}
}

// P14.3: which images Load takes, at the edges that the document names.
func TestLoad(t *testing.T) {
	one, two, three := first(1), with(first(2), set{atBegan, 5}), with(first(3), set{atEpoch(15), 7}, set{atBegan, 9})
	hold := Moving{Slot: 4, From: 1, To: 2, Epoch: 1, Phase: Hold, N: 5}
	drop := Moving{Slot: 15, From: 3, To: 1, Epoch: 7, Phase: Drop, N: 9}
	change := func(m Moving, do func(m *Moving)) Moving { do(&m); return m }
	for _, c := range []struct {
		what string
		l    []int64
		ok   bool
	}{
		{"one shard", one, true},
		{"two shards", two, true},
		{"three shards", three, true},
		{"no shards", with(one, set{atShards, 0}), false},
		{"four shards", with(one, set{atShards, 4}), false},
		{"shards below 0", with(one, set{atShards, -1}), false},
		{"more shards than own a slot", with(one, set{atShards, 3}), true},
		{"an owner 0", with(one, set{atOwner(0), 0}), false},
		{"an owner that is not there", with(two, set{atOwner(15), 3}), false},
		{"an owner below 0", with(two, set{atOwner(7), -1}), false},
		{"another owner", with(two, set{atOwner(0), 2}), true},
		{"an epoch below 0", with(one, set{atEpoch(0), -1}), false},
		{"the greatest epoch", with(one, set{atEpoch(15), great}), true},
		{"an epoch too great", with(one, set{atEpoch(15), great + 1}), false},
		{"fewer than none began", with(one, set{atBegan, -1}), false},
		{"the most began", with(one, set{atBegan, great}), true},
		{"too many began", with(one, set{atBegan, great + 1}), false},
		{"Hold", moving(two, hold), true},
		{"Install", moving(two, change(hold, func(m *Moving) { m.Phase = Install })), true},
		{"Drop", moving(three, drop), true},
		{"Drop of an epoch ahead", moving(three, change(drop, func(m *Moving) { m.Epoch = 8 })), false},
		{"Drop of an epoch behind", moving(three, change(drop, func(m *Moving) { m.Epoch = 6 })), false},
		{"Hold of the slot's epoch", moving(two, change(hold, func(m *Moving) { m.Epoch = 0 })), false},
		{"Install of the slot's epoch", moving(two, change(hold, func(m *Moving) { m.Epoch, m.Phase = 0, Install })), false},
		{"Hold of an epoch far ahead", moving(two, change(hold, func(m *Moving) { m.Epoch = great })), true},
		{"Hold of an epoch too far ahead", moving(two, change(hold, func(m *Moving) { m.Epoch = great + 1 })), false},
		{"a phase below 0", moving(two, change(hold, func(m *Moving) { m.Phase = -1 })), false},
		{"a phase 4", moving(three, change(drop, func(m *Moving) { m.Phase = 4 })), false},
		{"Idle, with all else", moving(two, change(hold, func(m *Moving) { m.Phase = Idle })), false},
		{"Idle, with a slot", moving(two, Moving{Slot: 1}), false},
		{"Idle, with From", moving(two, Moving{From: 1}), false},
		{"Idle, with To", moving(two, Moving{To: 1}), false},
		{"Idle, with an epoch", moving(two, Moving{Epoch: 1}), false},
		{"Idle, with a number", moving(two, Moving{N: 1}), false},
		{"a slot below 0", moving(two, change(hold, func(m *Moving) { m.Slot = -1 })), false},
		{"a slot 16", moving(two, change(hold, func(m *Moving) { m.Slot = 16 })), false},
		{"a slot far off", moving(two, change(hold, func(m *Moving) { m.Slot = math.MinInt })), false},
		{"From 0", moving(two, change(hold, func(m *Moving) { m.From = 0 })), false},
		{"From 3", moving(two, change(hold, func(m *Moving) { m.From = 3 })), false},
		{"To 0", moving(two, change(hold, func(m *Moving) { m.To = 0 })), false},
		{"To 3", moving(two, change(hold, func(m *Moving) { m.To = 3 })), false},
		{"From and To the same", moving(two, change(hold, func(m *Moving) { m.To = 1 })), false},
		{"the number 0", moving(two, change(hold, func(m *Moving) { m.N = 0 })), false},
		{"the number 1", moving(two, change(hold, func(m *Moving) { m.N = 1 })), true},
		{"a number that never began", moving(two, change(hold, func(m *Moving) { m.N = 6 })), false},
		{"Collect", with(two, set{atAudit, 5}, set{atAudit + 1, Collect}), true},
		{"Thaw", with(two, set{atAudit, 1}, set{atAudit + 1, Thaw}), true},
		{"an audit's phase 3", with(two, set{atAudit, 5}, set{atAudit + 1, 3}), false},
		{"an audit's phase below 0", with(two, set{atAudit, 5}, set{atAudit + 1, -1}), false},
		{"no audit, with a number", with(two, set{atAudit, 5}), false},
		{"an audit 0", with(two, set{atAudit + 1, Collect}), false},
		{"an audit that never began", with(two, set{atAudit, 6}, set{atAudit + 1, Thaw}), false},
		{"an audit below 0", with(two, set{atAudit, -1}, set{atAudit + 1, Thaw}), false},
		{"both", with(moving(two, hold), set{atAudit, 4}, set{atAudit + 1, Collect}), false},
		{"both at the end", with(moving(three, drop), set{atAudit, 4}, set{atAudit + 1, Thaw}), false},
	} {
		want := api.ErrForm
		if c.ok {
			want = api.OK
		}
		t.Run(c.what, func(t *testing.T) { wantLoad(t, c.l, want) })
		if could(c.l) != c.ok {
			t.Errorf("%s: could %v", c.what, !c.ok)
		}
	}
}

// P14.3, P1: bytes that are no image, and by which error where several apply.
func TestLoadRefuses(t *testing.T) {
	good := written(first(3)...)
	wrong := written(with(first(3), set{atShards, 4})...)
	for n := range len(good) {
		for _, b := range [][]byte{good[:n], wrong[:n]} {
			if c, why := Load(b); c != nil || why != api.ErrShort {
				t.Errorf("Load of %d bytes: %v, %d", n, c, why)
			}
		}
	}
	for _, c := range []struct {
		what string
		b    []byte
		why  api.Errno
	}{
		{"nil", nil, api.ErrShort},
		{"a byte more", append(slices.Clone(good), 0), api.ErrForm},
		{"a byte more of what can not be", append(slices.Clone(wrong), 0), api.ErrForm},
		{"a number in no form", append([]byte{0x86, 0}, good[1:]...), api.ErrForm},
		{"a number in no form, then an end", []byte{0x86, 0}, api.ErrForm},
		{"1000 bytes", append(slices.Clone(good), make([]byte, 1000-len(good))...), api.ErrForm},
		{"1001 bytes", append(slices.Clone(good), make([]byte, 1001-len(good))...), api.ErrSize},
		{"1001 bytes of no number", bytes.Repeat([]byte{0xff}, 1001), api.ErrSize},
		{"1000 bytes of no number", bytes.Repeat([]byte{0xff}, 1000), api.ErrForm},
	} {
		if d, why := Load(c.b); d != nil || why != c.why {
			t.Errorf("Load of %s: %v, %d; want %d", c.what, d, why, c.why)
		}
	}
}

// P14.3: images of charts on their way, a few of their numbers changed, are taken just if they can be; what is taken goes on.
func TestLoadOfChanged(t *testing.T) {
	r := rand.New(rand.NewSource(3))
	values := []int64{math.MinInt64, -1, 0, 1, 2, 3, 4, 5, 15, 16, great - 1, great, great + 1, math.MaxInt64}
	taken, left := 0, 0
	for range 20000 {
		c := mustNew(t, 1+r.Intn(3))
		for range r.Intn(12) {
			c.Do(someCmd(r, c))
		}
		l := read(t, c.Image())
		for range r.Intn(3) {
			at := r.Intn(numbers)
			if r.Intn(2) == 0 {
				at = atBegan + r.Intn(numbers-atBegan)
			}
			l[at] = values[r.Intn(len(values))]
		}
		if !could(l) {
			left++
			wantLoad(t, l, api.ErrForm)
			continue
		}
		taken++
		wantLoad(t, l, api.OK)
		for d := mustLoad(t, l); ; {
			x := someCmd(r, d)
			d.Do(x)
			if r.Intn(5) == 0 {
				break
			}
		}
	}
	if taken < 5000 || left < 5000 {
		t.Errorf("%d were taken, %d were not", taken, left)
	}
}

// P14.3, P14.6, P7: whatever Load takes is written as the same bytes.
func FuzzLoad(f *testing.F) {
	f.Add([]byte{})
	f.Add(written(first(1)...))
	f.Add(written(moving(with(first(2), set{atBegan, 5}), Moving{Slot: 4, From: 1, To: 2, Epoch: 1, Phase: Hold, N: 5})...))
	f.Add(written(with(first(3), set{atBegan, 5}, set{atAudit, 5}, set{atAudit + 1, Thaw})...))
	f.Fuzz(func(t *testing.T, b []byte) {
		c, why := Load(b)
		if (c == nil) != (why != api.OK) {
			t.Fatalf("%v beside %d", c, why)
		}
		if c != nil && (!bytes.Equal(c.Image(), b) || !could(read(t, b))) {
			t.Fatalf("%x is written again as %x", b, c.Image())
		}
	})
}
