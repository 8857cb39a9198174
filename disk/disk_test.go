package disk

import (
	"bytes"
	"math"
	"math/rand"
	"slices"
	"testing"

	"almoner/api"
)

// newDisk is a disk of which a test takes for granted that it can be.
func newDisk(t *testing.T, sectors int) *Disk {
	t.Helper()
	d, why := New(sectors)
	if d == nil || why != api.OK {
		t.Fatalf("New(%d): %v %d", sectors, d, why)
	}
	return d
}

// padded is a sector that begins with these bytes.
func padded(b []byte) []byte {
	whole := make([]byte, api.Sector)
	copy(whole, b)
	return whole
}

// filled is a sector of one byte over and over.
func filled(c byte) []byte {
	return bytes.Repeat([]byte{c}, api.Sector)
}

func mustWrite(t *testing.T, d *Disk, n int, b []byte) {
	t.Helper()
	if why := d.Write(n, b); why != api.OK {
		t.Fatalf("Write(%d) of %d bytes: %d", n, len(b), why)
	}
}

func mustSync(t *testing.T, d *Disk) {
	t.Helper()
	if why := d.Sync(); why != api.OK {
		t.Fatalf("Sync: %d", why)
	}
}

func mustCrash(t *testing.T, d *Disk, kept ...int) {
	t.Helper()
	if why := d.Crash(kept); why != api.OK {
		t.Fatalf("Crash(%v): %d", kept, why)
	}
}

func wantSector(t *testing.T, d *Disk, n int, want []byte) {
	t.Helper()
	if got, why := d.Read(n); why != api.OK || !bytes.Equal(got, padded(want)) {
		t.Errorf("Read(%d): %q with %d, want %q", n, got, why, want)
	}
}

// sectorsOf is all that a disk reads.
func sectorsOf(t *testing.T, d *Disk) []byte {
	t.Helper()
	var all []byte
	for n := range d.Size() {
		b, why := d.Read(n)
		if why != api.OK || len(b) != api.Sector {
			t.Fatalf("Read(%d): %d bytes with %d", n, len(b), why)
		}
		all = append(all, b...)
	}
	return all
}

// P3.1: how many sectors a disk may have; all are 0 at first, read and safe.
func TestNew(t *testing.T) {
	for _, n := range []int{math.MinInt, -256, -1, 0, api.MaxSectors + 1, 1 << 56, math.MaxInt} {
		if d, why := New(n); d != nil || why != api.ErrArg {
			t.Errorf("New(%d): %v %d, want ErrArg", n, d, why)
		}
	}
	for _, n := range []int{1, 2, 255, api.MaxSectors - 1, api.MaxSectors} {
		d := newDisk(t, n)
		zero := make([]byte, n*api.Sector)
		if d.Size() != n || !bytes.Equal(d.Image(), zero) || !bytes.Equal(sectorsOf(t, d), zero) {
			t.Errorf("New(%d) has %d sectors, or not all are 0", n, d.Size())
		}
		if d.Unsynced() != 0 || d.Dead() {
			t.Errorf("New(%d): %d unsynced, dead %t", n, d.Unsynced(), d.Dead())
		}
	}
}

// P3.1: of which lengths an image is a disk, of which it is safe.
func TestLoad(t *testing.T) {
	for _, n := range []int{0, 1, 255, 257, 511, api.MaxSectors*api.Sector - 1, api.MaxSectors*api.Sector + 1, (api.MaxSectors + 1) * api.Sector} {
		if d, why := Load(make([]byte, n)); d != nil || why != api.ErrArg {
			t.Errorf("Load of %d bytes: %v %d, want ErrArg", n, d, why)
		}
	}
	if d, why := Load(nil); d != nil || why != api.ErrArg {
		t.Errorf("Load of nil: %v %d, want ErrArg", d, why)
	}
	r := rand.New(rand.NewSource(1))
	for _, n := range []int{1, 2, 77, api.MaxSectors} {
		image := make([]byte, n*api.Sector)
		r.Read(image)
		d, why := Load(image)
		if why != api.OK {
			t.Fatalf("Load of %d sectors: %d", n, why)
		}
		if d.Size() != n || !bytes.Equal(d.Image(), image) || !bytes.Equal(sectorsOf(t, d), image) {
			t.Errorf("Load of %d sectors is another disk", n)
		}
		mustCrash(t, d)
		if !bytes.Equal(sectorsOf(t, d), image) {
			t.Errorf("Load of %d sectors is not safe", n)
		}
	}
}

// P3.1: all calls of a nil disk; P1: and of one that New has not made.
func TestNilDisk(t *testing.T) {
	var d *Disk
	if d.Size() != 0 || len(d.Image()) != 0 || d.Unsynced() != 0 || d.Dead() || d.Copy() != nil {
		t.Error("a nil disk has something")
	}
	b, why := d.Read(0)
	if b != nil || why != api.ErrNil {
		t.Errorf("Read of nil: %v %d", b, why)
	}
	for name, why := range map[string]api.Errno{
		"Write": d.Write(-1, make([]byte, 300)), "Sync": d.Sync(), "Fail": d.Fail(),
		"Full": d.Full(true), "Crash": d.Crash([]int{1}),
	} {
		if why != api.ErrNil {
			t.Errorf("%s of nil: %d, want ErrNil", name, why)
		}
	}
	empty := new(Disk)
	if _, why := empty.Read(0); why != api.ErrArg || empty.Write(0, nil) != api.ErrArg || empty.Size() != 0 {
		t.Error("a disk of no sectors has one")
	}
	if empty.Sync() != api.OK || empty.Crash([]int{1}) != api.OK || empty.Copy().Size() != 0 {
		t.Error("a disk of no sectors fails")
	}
}

// P3.2: a sector is read as it was written last, before and behind a sync.
func TestReadsWhatWasWritten(t *testing.T) {
	d := newDisk(t, 3)
	mustWrite(t, d, 1, filled('x'))
	mustWrite(t, d, 2, []byte("two"))
	wantSector(t, d, 0, nil)
	wantSector(t, d, 1, filled('x'))
	wantSector(t, d, 2, []byte("two"))
	mustWrite(t, d, 1, []byte("short"))
	wantSector(t, d, 1, []byte("short"))
	mustSync(t, d)
	wantSector(t, d, 1, []byte("short"))
	mustWrite(t, d, 1, nil)
	wantSector(t, d, 1, nil)
	wantSector(t, d, 2, []byte("two"))
}

// P3.2: no such sector.
func TestReadOfNoSector(t *testing.T) {
	d := newDisk(t, 3)
	for _, n := range []int{math.MinInt, -1, 3, 4, 1 << 56, math.MaxInt} {
		if b, why := d.Read(n); b != nil || why != api.ErrArg {
			t.Errorf("Read(%d): %v %d, want ErrArg", n, b, why)
		}
		if why := d.Write(n, nil); why != api.ErrArg {
			t.Errorf("Write(%d): %d, want ErrArg", n, why)
		}
	}
	if d.Unsynced() != 0 {
		t.Errorf("%d writes of no sector wait", d.Unsynced())
	}
}

// P3.2, P1: the errors of Write, each ahead of those behind it; what is refused changes nothing.
func TestErrorsOfWrite(t *testing.T) {
	long := make([]byte, api.Sector+1)
	for _, c := range []struct {
		name       string
		dead, full bool
		n          int
		b          []byte
		want       api.Errno
	}{
		{"all of them", true, true, -1, long, api.ErrDead},
		{"dead alone", true, false, 0, nil, api.ErrDead},
		{"no sector, too long, full", false, true, 2, long, api.ErrArg},
		{"too long, full", false, true, 0, long, api.ErrSize},
		{"too long alone", false, false, 0, long, api.ErrSize},
		{"full", false, true, 0, nil, api.ErrFull},
		{"the greatest", false, false, 0, long[:api.Sector], api.OK},
	} {
		d := newDisk(t, 2)
		mustWrite(t, d, 0, []byte("old"))
		if c.dead {
			d.Fail()
			d.Sync()
		}
		d.Full(c.full)
		before := sectorsOf(t, d)
		if why := d.Write(c.n, c.b); why != c.want {
			t.Errorf("%s: %d, want %d", c.name, why, c.want)
		}
		if c.want != api.OK && (d.Unsynced() != 1 || !bytes.Equal(sectorsOf(t, d), before)) {
			t.Errorf("%s: a refused write changes the disk", c.name)
		}
	}
}

// P3.2: a write is safe behind the next sync, and counted until then.
func TestSync(t *testing.T) {
	d := newDisk(t, 2)
	for i := range 5 {
		mustWrite(t, d, i%2, filled(byte(i)))
		if d.Unsynced() != i+1 {
			t.Errorf("Unsynced %d behind %d writes", d.Unsynced(), i+1)
		}
	}
	if !bytes.Equal(d.Image(), make([]byte, 2*api.Sector)) {
		t.Error("a write is safe ahead of a sync")
	}
	mustSync(t, d)
	if want := append(filled(4), filled(3)...); !bytes.Equal(d.Image(), want) || d.Unsynced() != 0 {
		t.Errorf("behind a sync: %d unsynced, image %x", d.Unsynced(), d.Image())
	}
	mustSync(t, d)
	mustWrite(t, d, 0, []byte("more"))
	if d.Unsynced() != 1 {
		t.Errorf("Unsynced %d, want 1", d.Unsynced())
	}
	mustSync(t, d)
	if want := append(padded([]byte("more")), filled(3)...); !bytes.Equal(d.Image(), want) {
		t.Error("a second sync makes something else safe")
	}
}

// P3.2, P3.3: a sync that fails: nothing more is safe, the disk is dead; P3.7: it reads as before until a crash.
func TestFail(t *testing.T) {
	d := newDisk(t, 2)
	mustWrite(t, d, 0, []byte("safe"))
	mustSync(t, d)
	mustWrite(t, d, 0, []byte("late"))
	mustWrite(t, d, 1, []byte("too"))
	image, read := d.Image(), sectorsOf(t, d)
	if why := d.Fail(); why != api.OK || d.Dead() {
		t.Errorf("Fail: %d, dead %t", why, d.Dead())
	}
	if why := d.Sync(); why != api.ErrSync || !d.Dead() {
		t.Errorf("Sync: %d, dead %t", why, d.Dead())
	}
	for range 2 {
		if !bytes.Equal(d.Image(), image) || !bytes.Equal(sectorsOf(t, d), read) || d.Unsynced() != 2 {
			t.Error("a dead disk changes")
		}
		if why := d.Sync(); why != api.ErrDead {
			t.Errorf("Sync of a dead disk: %d", why)
		}
		if why := d.Write(0, nil); why != api.ErrDead {
			t.Errorf("Write of a dead disk: %d", why)
		}
		if d.Fail() != api.OK || d.Full(true) != api.OK {
			t.Error("Fail or Full of a dead disk is refused")
		}
	}
	mustCrash(t, d, 2, 300)
	if d.Dead() || d.Unsynced() != 0 {
		t.Errorf("behind a crash: dead %t, %d unsynced", d.Dead(), d.Unsynced())
	}
	wantSector(t, d, 0, []byte("lafe"))
	wantSector(t, d, 1, []byte("too"))
	mustWrite(t, d, 0, nil)
	mustSync(t, d)
}

// P3.3: Fail is of the next sync, whatever is written between, and even if nothing is.
func TestFailOfNothing(t *testing.T) {
	d := newDisk(t, 1)
	d.Fail()
	d.Fail()
	if why := d.Sync(); why != api.ErrSync || !d.Dead() {
		t.Errorf("Sync of nothing: %d, dead %t", why, d.Dead())
	}
	mustCrash(t, d)
	mustSync(t, d)
}

// P3.3: full, and not any more; what is read and synced does not hang on it.
func TestFull(t *testing.T) {
	d := newDisk(t, 1)
	mustWrite(t, d, 0, []byte("a"))
	if why := d.Full(true); why != api.OK {
		t.Errorf("Full: %d", why)
	}
	for range 2 {
		if why := d.Write(0, []byte("b")); why != api.ErrFull {
			t.Errorf("Write: %d, want ErrFull", why)
		}
	}
	wantSector(t, d, 0, []byte("a"))
	mustSync(t, d)
	if d.Dead() {
		t.Error("a full disk is dead")
	}
	d.Full(false)
	mustWrite(t, d, 0, []byte("c"))
	wantSector(t, d, 0, []byte("c"))
}

// P3.3: behind a crash the disk is not full, not dead, and no failing is asked for.
func TestCrashEndsAllThatWasAskedFor(t *testing.T) {
	d := newDisk(t, 1)
	d.Full(true)
	d.Fail()
	mustCrash(t, d)
	mustWrite(t, d, 0, []byte("a"))
	mustSync(t, d)
	if d.Dead() {
		t.Error("dead behind a crash")
	}
}

// P3.3: the chapter's example.
func TestCrashAsInTheExample(t *testing.T) {
	d := newDisk(t, 2)
	mustWrite(t, d, 0, []byte("a"))
	mustSync(t, d)
	mustWrite(t, d, 0, []byte("bc"))
	mustWrite(t, d, 1, []byte("d"))
	mustCrash(t, d, 1, 0)
	wantSector(t, d, 0, []byte("b"))
	wantSector(t, d, 1, nil)
}

// P3.3: how many bytes of a write each number keeps, the image's own behind them.
func TestWhatACrashKeeps(t *testing.T) {
	for _, c := range []struct {
		kept []int
		want int
	}{
		{nil, 0}, {[]int{}, 0}, {[]int{math.MinInt}, 0}, {[]int{-1}, 0}, {[]int{0}, 0}, {[]int{1}, 1},
		{[]int{255}, 255}, {[]int{256}, 256}, {[]int{257}, 256}, {[]int{math.MaxInt}, 256}, {[]int{7, 256, 256}, 7},
	} {
		d := newDisk(t, 2)
		mustWrite(t, d, 1, filled('o'))
		mustSync(t, d)
		mustWrite(t, d, 1, filled('n'))
		before := slices.Clone(c.kept)
		mustCrash(t, d, c.kept...)
		want := append(filled('n')[:c.want:c.want], filled('o')[c.want:]...)
		wantSector(t, d, 1, want)
		wantSector(t, d, 0, nil)
		if !bytes.Equal(d.Image(), sectorsOf(t, d)) || d.Unsynced() != 0 {
			t.Errorf("Crash(%v): not all that is read is safe", c.kept)
		}
		if !slices.Equal(c.kept, before) {
			t.Errorf("Crash(%v) changes its list, which was %v", c.kept, before)
		}
	}
}

// P3.3: of the bytes behind a short write's own, which are 0, so many reach the image as well.
func TestCrashKeepsTheZerosToo(t *testing.T) {
	d := newDisk(t, 1)
	mustWrite(t, d, 0, filled('o'))
	mustSync(t, d)
	mustWrite(t, d, 0, []byte("n"))
	mustCrash(t, d, 3)
	wantSector(t, d, 0, append([]byte{'n', 0, 0}, filled('o')[3:]...))
}

// P3.3: the writes of one sector reach the image in the order in which they were made; P3.5: each byte is of one of them, or of the image.
func TestCrashKeepsWritesInTheirOrder(t *testing.T) {
	d := newDisk(t, 1)
	mustWrite(t, d, 0, []byte("zzzz"))
	mustSync(t, d)
	mustWrite(t, d, 0, []byte("aaaa"))
	mustWrite(t, d, 0, []byte("bbbb"))
	mustWrite(t, d, 0, []byte("cccc"))
	mustCrash(t, d, 3, 2, 1)
	wantSector(t, d, 0, []byte("cbaz"))
	mustWrite(t, d, 0, []byte("aaaa"))
	mustWrite(t, d, 0, []byte("bbbb"))
	mustCrash(t, d, 1, 3)
	wantSector(t, d, 0, []byte("bbbz"))
}

// P3.3: a copy is as the disk is, what is not safe and what was asked for too, and goes its own way.
func TestCopy(t *testing.T) {
	d := newDisk(t, 2)
	mustWrite(t, d, 0, []byte("safe"))
	mustSync(t, d)
	mustWrite(t, d, 0, []byte("late"))
	d.Full(true)
	d.Fail()
	c := d.Copy()
	if !bytes.Equal(c.Image(), d.Image()) || !bytes.Equal(sectorsOf(t, c), sectorsOf(t, d)) || c.Unsynced() != 1 || c.Size() != 2 {
		t.Error("a copy is another one")
	}
	if why := c.Write(1, nil); why != api.ErrFull {
		t.Errorf("Write of a full disk's copy: %d", why)
	}
	if why := c.Sync(); why != api.ErrSync || !c.Dead() || d.Dead() {
		t.Errorf("Sync of a failing disk's copy: %d", why)
	}
	if !c.Copy().Dead() {
		t.Error("a dead disk's copy is not dead")
	}
	mustCrash(t, c, 2)
	wantSector(t, c, 0, []byte("lafe"))
	wantSector(t, d, 0, []byte("late"))
	mustWrite(t, c, 1, []byte("one"))
	mustSync(t, c)
	wantSector(t, d, 1, nil)
	mustCrash(t, d)
	wantSector(t, d, 0, []byte("safe"))
	mustWrite(t, d, 0, []byte("other"))
	mustSync(t, d)
	wantSector(t, c, 0, []byte("lafe"))
	wantSector(t, c, 1, []byte("one"))
}

// P3.3: two copies that write on from the same waiting ones do not write into each other.
func TestCopiesShareNoWrites(t *testing.T) {
	d := newDisk(t, 1)
	for i := range 3 {
		mustWrite(t, d, 0, filled(byte(i)))
	}
	a, b := d.Copy(), d.Copy()
	mustWrite(t, a, 0, []byte("a"))
	mustWrite(t, b, 0, []byte("b"))
	mustWrite(t, d, 0, []byte("d"))
	for want, disk := range map[string]*Disk{"a": a, "b": b, "d": d} {
		mustCrash(t, disk, 0, 0, 0, 256)
		wantSector(t, disk, 0, []byte(want))
	}
}

// P3.1, P3.2: what is handed in is not kept, and what is answered is the caller's own.
func TestSharesNoMemory(t *testing.T) {
	image := filled('i')
	d, _ := Load(image)
	clear(image)
	wantSector(t, d, 0, filled('i'))
	clear(d.Image())
	if !bytes.Equal(d.Image(), filled('i')) {
		t.Error("an image that is answered is the disk's own")
	}
	b := filled('w')
	mustWrite(t, d, 0, b)
	clear(b)
	wantSector(t, d, 0, filled('w'))
	got, _ := d.Read(0)
	clear(got)
	wantSector(t, d, 0, filled('w'))
	mustCrash(t, d, 256)
	wantSector(t, d, 0, filled('w'))
	pair := newDisk(t, 2)
	mustWrite(t, pair, 1, []byte("behind"))
	got, _ = pair.Read(0)
	_ = append(got, "grown"...)
	wantSector(t, pair, 1, []byte("behind"))
}

// told is a write as a test has made it.
type told struct {
	n int
	b []byte
}

// model is a disk as the document tells it: the image, and all writes since the last sync that went well.
type model struct {
	safe    [][]byte
	waiting []told
	failing bool
	dead    bool
	full    bool
}

// reads is the sector n: as the last write of it says, or as the image does.
func (m *model) reads(n int) []byte {
	b := m.safe[n]
	for _, w := range m.waiting {
		if w.n == n {
			b = padded(w.b)
		}
	}
	return b
}

func (m *model) write(n int, b []byte) api.Errno {
	switch {
	case m.dead:
		return api.ErrDead
	case n < 0 || n >= len(m.safe):
		return api.ErrArg
	case len(b) > api.Sector:
		return api.ErrSize
	case m.full:
		return api.ErrFull
	}
	m.waiting = append(m.waiting, told{n, b})
	return api.OK
}

func (m *model) sync() api.Errno {
	switch {
	case m.dead:
		return api.ErrDead
	case m.failing:
		m.dead = true
		return api.ErrSync
	}
	for n := range m.safe {
		m.safe[n] = m.reads(n)
	}
	m.waiting = nil
	return api.OK
}

func (m *model) crash(kept []int) {
	for i, w := range m.waiting {
		old := m.safe[w.n]
		torn := slices.Clone(old)
		for at := range torn {
			if i < len(kept) && at < kept[i] {
				torn[at] = padded(w.b)[at]
			}
		}
		m.safe[w.n] = torn
	}
	*m = model{safe: m.safe}
}

func (m *model) image() []byte {
	return bytes.Join(m.safe, nil)
}

func someKept(r *rand.Rand) []int {
	kept := make([]int, r.Intn(12))
	for i := range kept {
		kept[i] = r.Intn(400) - 70
	}
	return kept
}

// step does one thing to a disk and to its model.
func step(t *testing.T, r *rand.Rand, d *Disk, m *model) {
	t.Helper()
	switch what := r.Intn(20); {
	case what < 11:
		b := make([]byte, r.Intn(api.Sector+2))
		r.Read(b)
		n := r.Intn(len(m.safe)+2) - 1
		if got, want := d.Write(n, b), m.write(n, b); got != want {
			t.Fatalf("Write(%d) of %d bytes: %d, want %d", n, len(b), got, want)
		}
	case what < 14:
		if got, want := d.Sync(), m.sync(); got != want {
			t.Fatalf("Sync: %d, want %d", got, want)
		}
	case what == 14:
		d.Fail()
		m.failing = true
	case what < 17:
		m.full = r.Intn(3) == 0
		d.Full(m.full)
	case what < 19:
		checkLoaded(t, d)
		kept := someKept(r)
		d.Crash(kept)
		m.crash(kept)
	default:
		*d = *d.Copy()
	}
}

// checkLoaded holds a disk of the image against the disk behind a crash that keeps nothing (P3.6).
func checkLoaded(t *testing.T, d *Disk) {
	t.Helper()
	loaded, why := Load(d.Image())
	if why != api.OK {
		t.Fatalf("Load: %d", why)
	}
	crashed := d.Copy()
	crashed.Crash(nil)
	if !bytes.Equal(sectorsOf(t, loaded), sectorsOf(t, crashed)) || !bytes.Equal(loaded.Image(), crashed.Image()) {
		t.Fatal("an image that is loaded is another disk than that behind a crash")
	}
}

// P3.2 to P3.7: whatever is done one after another, a disk is as its model is.
func TestAsTheModelIs(t *testing.T) {
	for seed := range int64(200) {
		r := rand.New(rand.NewSource(seed))
		sectors := 1 + r.Intn(4)
		d, m := newDisk(t, sectors), &model{}
		for range sectors {
			m.safe = append(m.safe, make([]byte, api.Sector))
		}
		for range 60 {
			step(t, r, d, m)
			if d.Unsynced() != len(m.waiting) || d.Dead() != m.dead || d.Size() != sectors {
				t.Fatalf("seed %d: %d unsynced, dead %t; want %d, %t", seed, d.Unsynced(), d.Dead(), len(m.waiting), m.dead)
			}
			if !bytes.Equal(d.Image(), m.image()) {
				t.Fatalf("seed %d: another image", seed)
			}
			for n := range sectors {
				wantSector(t, d, n, m.reads(n))
			}
		}
	}
}

// P3.4: what was safe, and was not written since, is read behind any crash; P3.5: each other byte is the image's, or that of a write.
func TestSafeIsSafe(t *testing.T) {
	for seed := range int64(200) {
		r := rand.New(rand.NewSource(seed))
		d := newDisk(t, 6)
		for n := range 6 {
			mustWrite(t, d, n, filled(byte(100+n)))
		}
		mustSync(t, d)
		bytesOf := map[int]string{}
		for i := range r.Intn(8) {
			n := r.Intn(3)
			mustWrite(t, d, n, filled(byte(i)))
			bytesOf[n] += string(rune(i))
		}
		if r.Intn(2) == 0 {
			d.Fail()
			d.Sync()
		}
		mustCrash(t, d, someKept(r)...)
		for n := range 6 {
			b, _ := d.Read(n)
			for at, c := range b {
				if c != byte(100+n) && !bytes.Contains([]byte(bytesOf[n]), []byte{c}) {
					t.Fatalf("seed %d: the byte %d of sector %d is %d", seed, at, n, c)
				}
			}
		}
	}
}
