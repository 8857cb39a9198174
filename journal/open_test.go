package journal

import (
	"bytes"
	"fmt"
	"math"
	"testing"

	"almoner/api"
	"almoner/disk"
)

// P4.1, P1: what Open refuses, in the order of its errors.
func TestErrorsOfOpen(t *testing.T) {
	d := newDisk(t, 8)
	for _, c := range []struct {
		name       string
		d          *disk.Disk
		from, size int
		next       int64
		want       api.Errno
	}{
		{"no disk", nil, 0, 4, 1, api.ErrNil},
		{"no disk, and nothing right", nil, -1, 0, 0, api.ErrNil},
		{"a disk of no sectors", new(disk.Disk), 0, 2, 1, api.ErrArg},
		{"from below 0", d, -1, 4, 1, api.ErrArg},
		{"the least from", d, math.MinInt, 4, 1, api.ErrArg},
		{"from behind the disk", d, 9, 2, 1, api.ErrArg},
		{"from at the disk's end", d, 8, 2, 1, api.ErrArg},
		{"from at the last sector", d, 7, 2, 1, api.ErrArg},
		{"the greatest from", d, math.MaxInt, 2, 1, api.ErrArg},
		{"the greatest from and size", d, math.MaxInt, math.MaxInt, 1, api.ErrArg},
		{"no size", d, 0, 0, 1, api.ErrArg},
		{"size 1", d, 0, 1, 1, api.ErrArg},
		{"size below 0", d, 0, -4, 1, api.ErrArg},
		{"the least size", d, 0, math.MinInt, 1, api.ErrArg},
		{"one sector too many", d, 0, 9, 1, api.ErrArg},
		{"one sector too many behind from", d, 3, 6, 1, api.ErrArg},
		{"the greatest size", d, 1, math.MaxInt, 1, api.ErrArg},
		{"next 0", d, 0, 4, 0, api.ErrArg},
		{"next below 0", d, 0, 4, -1, api.ErrArg},
		{"the least next", d, 0, 4, math.MinInt64, api.ErrArg},
		{"next above 2^60", d, 0, 4, 1<<60 + 1, api.ErrArg},
		{"the greatest next", d, 0, 4, math.MaxInt64, api.ErrArg},
		{"the whole disk", d, 0, 8, 1, api.OK},
		{"the least ring at the end", d, 6, 2, 1, api.OK},
		{"next 2^60", d, 3, 5, 1 << 60, api.OK},
	} {
		j, records, why := Open(c.d, c.from, c.size, c.next)
		if why != c.want || (j == nil) != (why != api.OK) || len(records) != 0 {
			t.Errorf("%s: %v, %d records, %d; want %d", c.name, j, len(records), why, c.want)
		}
		if why == api.OK {
			wantBounds(t, j, c.next, c.next)
		}
	}
	if d.Unsynced() != 0 || !bytes.Equal(d.Image(), make([]byte, 8*256)) {
		t.Error("Open of a ring of nothing writes")
	}
}

// P4.1: all calls of a nil journal; P1: and of one that Open has not made.
func TestNilJournal(t *testing.T) {
	var j *Journal
	if j.Append(make([]byte, 9000)) != api.ErrNil || j.Sync() != api.ErrNil || j.Trim(-1) != api.ErrNil {
		t.Error("a nil journal's call answers another error than ErrNil")
	}
	if j.Start() != 0 || j.Next() != 0 || j.Room() != 0 || j.Dead() {
		t.Error("a nil journal has something")
	}
	empty := new(Journal)
	if empty.Append(nil) != api.ErrFull || empty.Room() != 0 || empty.Trim(1) != api.ErrArg || empty.Sync() == api.OK {
		t.Error("a journal of no disk takes something")
	}
}

// P4.1: records one behind the other, some of several sectors; Start and Next are at their ends.
func TestOpenAnswersTheRecords(t *testing.T) {
	d := newDisk(t, 20)
	want := []string{"a", "", string(text('b', 500)), string(text('c', 238)), string(text('d', 239))}
	number := int64(7)
	for _, r := range want {
		sectors := plainRecord(number, []byte(r))
		lay(t, d, number, sectors...)
		number += int64(len(sectors))
	}
	image := d.Image()
	j, records := mustOpen(t, d, 0, 20, 7)
	wantRecords(t, records, want...)
	wantBounds(t, j, 7, 7+1+1+3+1+2)
	if !bytes.Equal(d.Image(), image) || d.Unsynced() != 0 {
		t.Error("Open changes records that stand")
	}
	for i, r := range records {
		for k := range r {
			r[k] = 'x'
		}
		_ = append(r, "grown"...)
		records[i] = nil
	}
	_, records = mustOpen(t, d, 0, 20, 7)
	wantRecords(t, records, want...)
}

// P4.1: the records of one answer share no memory.
func TestRecordsShareNoMemory(t *testing.T) {
	d := newDisk(t, 6)
	j, _ := mustOpen(t, d, 0, 6, 1)
	for _, c := range []byte("abc") {
		mustAppend(t, j, text(c, 300))
	}
	_, records := mustOpen(t, d, 0, 6, 1)
	for i := range records {
		grown := append(records[i], text('x', 300)...)
		clear(grown)
	}
	wantRecords(t, records[1:2], string(records[1]))
	clear(records[0])
	wantRecords(t, records[1:], string(records[1]), string(records[2]))
	_, again := mustOpen(t, d, 0, 6, 1)
	wantRecords(t, again, string(text('a', 300)), string(text('b', 300)), string(text('c', 300)))
}

// P4.1: the numbers go round the ring, from any next on and at any place of the disk; sectors beside the ring stay as they are.
func TestOpenRoundTheRing(t *testing.T) {
	for _, next := range []int64{1, 2, 5, 6, 11, 1<<60 - 3, 1 << 60} {
		d := newDisk(t, 9)
		for n := range 9 {
			d.Write(n, text('o', 256))
		}
		d.Sync()
		j, records := mustOpen(t, d, 3, 5, next)
		wantRecords(t, records)
		mustAppend(t, j, text('p', 300))
		mustAppend(t, j, text('q', 700))
		mustSync(t, j)
		wantBounds(t, j, next, next+5)
		sectors := append(plainRecord(next, text('p', 300)), plainRecord(next+2, text('q', 700))...)
		for i, b := range sectors {
			wantSector(t, d, 3+int((next+int64(i)-1)%5), b)
		}
		for _, n := range []int{0, 1, 2, 8} {
			wantSector(t, d, n, text('o', 256))
		}
		j, records = mustOpen(t, d, 3, 5, next)
		wantRecords(t, records, string(text('p', 300)), string(text('q', 700)))
		wantBounds(t, j, next, next+5)
	}
}

// P4.1: of a ring that is full of records all stand; the first one's sector does not stand again behind the last one.
func TestOpenOfAFullRing(t *testing.T) {
	d := newDisk(t, 2)
	lay(t, d, 1, append(plainRecord(1, []byte("a")), plainRecord(2, []byte("b"))...)...)
	j, records := mustOpen(t, d, 0, 2, 1)
	wantRecords(t, records, "a", "b")
	wantBounds(t, j, 1, 3)
	if j.Room() != 0 {
		t.Errorf("Room %d of a full ring", j.Room())
	}
}

// torn is sectors of which, from a number on, no record stands, by what is wrong with them.
func torn(number int64) map[string][][]byte {
	good := func() [][]byte { return plainRecord(number, text('r', 600)) }
	cases := map[string][][]byte{}
	for name, at := range map[string]int{"sum": 0, "number": 4, "number's last byte": 11, "piece": 14, "zeros": 255} {
		for i := range 3 {
			sectors := good()
			sectors[i][at] ^= 1
			cases[fmt.Sprintf("%s of the piece %d", name, i)] = sectors
		}
	}
	parts := piecesOf(text('r', 600), 242)
	for _, marks := range []byte{4, 5, 6, 7, 8, 129, 255} {
		cases[fmt.Sprintf("marks %d of a record of one", marks)] = [][]byte{plainSector(number, marks, 242, piecesOf(text('r', 238), 242)[0])}
	}
	for _, c := range []struct {
		name  string
		i     int
		marks byte
		n     byte
	}{
		{"a first piece that is not marked", 0, 0, 242},
		{"a first piece that is marked as the last one", 0, 2, 242},
		{"a first piece that is marked as both", 0, 3, 242},
		{"a piece between that is marked as the first one", 1, 1, 242},
		{"a piece between that is marked as the last one", 1, 2, 242},
		{"a piece between that is marked as both", 1, 3, 242},
		{"a last piece that is not marked", 2, 0, 120},
		{"a last piece that is marked as the first one", 2, 1, 120},
		{"a last piece that is marked as both", 2, 3, 120},
		{"no length of the first piece", 0, 1, 0},
		{"no length of the last piece", 2, 2, 0},
		{"a length of 243", 1, 0, 243},
		{"a length of 255", 0, 1, 255},
		{"a length that is too great by one", 2, 2, 121},
		{"a length that is too small by one", 2, 2, 119},
	} {
		sectors := good()
		sectors[c.i] = plainSector(number+int64(c.i), c.marks, c.n, parts[c.i])
		cases[c.name] = sectors
	}
	for n := range 4 {
		cases[fmt.Sprintf("only %d bytes", n)] = [][]byte{plainSector(number, 3, byte(n), make([]byte, n))}
	}
	other := piecesOf([]byte("right"), 242)[0]
	other[0] ^= 1
	cases["a record's sum"] = [][]byte{plainSector(number, 3, byte(len(other)), other)}
	cases["the number of the round behind"] = plainRecord(number+60, text('r', 600))
	cases["the number of the round ahead"] = plainRecord(number-60, text('r', 600))
	cases["nothing"] = nil
	hole := plainPieces(number, [][]byte{parts[0], {1}, parts[1], parts[2]})
	hole[1][20] ^= 1
	cases["a sector between that is not right"] = hole
	second := plainPieces(number, [][]byte{parts[0], {1}, parts[1], parts[2]})
	second[1] = plainSector(number+1, 1, 1, []byte{1})
	cases["a first piece between"] = second
	return cases
}

// P4.1: what is not right, or no record, ends those that stand; what is right behind it is written 0.
func TestWhatDoesNotStand(t *testing.T) {
	for name, sectors := range torn(62) {
		d := newDisk(t, 60)
		lay(t, d, 61, plainRecord(61, []byte("first"))...)
		lay(t, d, 62, sectors...)
		lay(t, d, 70, plainRecord(70, []byte("behind"))...)
		j, records := mustOpen(t, d, 0, 60, 61)
		if len(records) != 1 || string(records[0]) != "first" {
			t.Errorf("%s: the records are %.40q, want the first one", name, records)
		}
		wantBounds(t, j, 61, 62)
		wantSector(t, d, 9, make([]byte, 256))
		if d.Unsynced() != 0 {
			t.Errorf("%s: %d sectors that were written 0 are not safe", name, d.Unsynced())
		}
	}
}

// P4.1: a record may stand in pieces that are shorter than those that Append makes, as long as each has a byte.
func TestShortPiecesStand(t *testing.T) {
	for _, size := range []int{1, 2, 3, 4, 5, 100, 241, 242} {
		d := newDisk(t, 400)
		parts := piecesOf(text('s', 300), size)
		lay(t, d, 1, plainPieces(1, parts)...)
		j, records := mustOpen(t, d, 0, 400, 1)
		wantRecords(t, records, string(text('s', 300)))
		wantBounds(t, j, 1, 1+int64(len(parts)))
	}
}

// P4.1: a record has at most MaxRecord bytes.
func TestLongestRecordStands(t *testing.T) {
	for size, count := range map[int]int{api.MaxRecord: 1, api.MaxRecord + 1: 0, api.MaxRecord + 242: 0} {
		d := newDisk(t, 40)
		lay(t, d, 1, plainRecord(1, text('l', size))...)
		_, records := mustOpen(t, d, 0, 40, 1)
		if len(records) != count || count == 1 && string(records[0]) != string(text('l', size)) {
			t.Errorf("of a record of %d bytes %d stand, want %d", size, len(records), count)
		}
	}
}

// P4.1: a record without its last piece, round the whole ring, does not stand, and is written 0.
func TestRecordWithoutAnEnd(t *testing.T) {
	d := newDisk(t, 4)
	lay(t, d, 1, plainRecord(1, text('e', 1100))[:4]...)
	j, records := mustOpen(t, d, 0, 4, 1)
	wantRecords(t, records)
	wantBounds(t, j, 1, 1)
	if !bytes.Equal(d.Image(), make([]byte, 4*256)) {
		t.Error("the sectors of a record without an end are there still")
	}
}

// P4.1: just those sectors are written 0 that are right as the number from Next on; the others stay as they are.
func TestWhatIsWrittenZero(t *testing.T) {
	d := newDisk(t, 6)
	kept := plainRecord(7, []byte("stands"))[0]
	bad := plainSector(9, 3, 0, nil)
	older := plainRecord(4, []byte("older"))[0]
	newer := plainRecord(17, []byte("newer"))[0]
	lay(t, d, 7, kept, plainSector(8, 0, 1, []byte{1}), bad, older, newer, plainSector(12, 2, 242, nil))
	j, records := mustOpen(t, d, 0, 6, 7)
	wantRecords(t, records, "stands")
	wantBounds(t, j, 7, 8)
	zero := make([]byte, 256)
	for n, want := range [][]byte{kept, zero, bad, older, newer, zero} {
		wantSector(t, d, n, want)
	}
	if loaded, _ := disk.Load(d.Image()); loaded != nil {
		wantSector(t, loaded, 1, zero)
		wantSector(t, loaded, 5, zero)
	}
}

// P4.1: a sector that is not right as its number stays as it is, whatever is wrong with it.
func TestWhatIsNotRightStays(t *testing.T) {
	sum := plainSector(2, 3, 4, make([]byte, 4))
	sum[3] ^= 128
	behind := plainSector(2, 3, 4, make([]byte, 4))
	behind[255] = 1
	for name, b := range map[string][]byte{
		"another sum":               sum,
		"a byte behind the piece":   behind,
		"the number ahead":          plainSector(1, 3, 4, nil),
		"the number behind":         plainSector(3, 3, 4, nil),
		"the number of next round":  plainSector(2+4, 3, 4, nil),
		"the number of last round":  plainSector(2-4, 3, 4, nil),
		"a number beyond all":       plainSector(math.MinInt64+2, 3, 4, nil),
		"marks beyond 3":            plainSector(2, 4, 4, nil),
		"no length":                 plainSector(2, 3, 0, nil),
		"a length beyond the piece": plainSector(2, 3, 243, nil),
	} {
		d := newDisk(t, 4)
		lay(t, d, 2, b)
		image := d.Image()
		j, records := mustOpen(t, d, 0, 4, 2)
		wantRecords(t, records)
		wantBounds(t, j, 2, 2)
		if !bytes.Equal(d.Image(), image) || d.Unsynced() != 0 {
			t.Errorf("%s: a sector that is not right is written", name)
		}
	}
}

// P4.1: of Next + size - 1, the last number, the sector is written 0 too.
func TestLastNumberIsWrittenZero(t *testing.T) {
	d := newDisk(t, 4)
	lay(t, d, 2, make([]byte, 256), make([]byte, 256), make([]byte, 256), plainRecord(5, []byte("lost"))[0])
	j, records := mustOpen(t, d, 0, 4, 2)
	wantRecords(t, records)
	wantBounds(t, j, 2, 2)
	wantSector(t, d, 0, make([]byte, 256))
}

// P4.1: an error of Write or of Sync is Open's, with nothing else answered; where nothing is to be written, there is none.
func TestErrorsOfTheDiskInOpen(t *testing.T) {
	for _, lost := range []bool{true, false} {
		for want, spoil := range map[api.Errno]func(d *disk.Disk){
			api.ErrFull: func(d *disk.Disk) { d.Full(true) },
			api.ErrSync: func(d *disk.Disk) { d.Fail() },
			api.ErrDead: func(d *disk.Disk) { d.Fail(); d.Sync() },
		} {
			d := newDisk(t, 4)
			lay(t, d, 1, plainRecord(1, []byte("a"))...)
			if lost {
				lay(t, d, 3, plainRecord(3, []byte("c"))...)
			}
			image := d.Image()
			spoil(d)
			j, records, why := Open(d, 0, 4, 1)
			switch {
			case lost && (j != nil || records != nil || why != want):
				t.Errorf("Open: %v, %q, %d; want nothing and %d", j, records, why, want)
			case !lost && (j == nil || why != api.OK):
				t.Errorf("Open of a ring that needs no writing: %d", why)
			case !lost:
				wantRecords(t, records, "a")
			}
			if !bytes.Equal(d.Image(), image) {
				t.Error("an Open that fails has made something safe")
			}
		}
	}
}
