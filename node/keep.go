package node

import (
	"almoner/api"
	"almoner/codec"
	"almoner/disk"
	"almoner/raft"
	"almoner/rlog"
	"almoner/store"
)

// A group has on the disk: its head, the entries of its log, and the pieces of the image of the log's base. An entry or a piece that the head does not tell of counts for nothing: it may stand there if the power went while a change was written in more than one batch.

const (
	mostPiece = 1900    // bytes of an image that stand under one key
	mostPlace = 1 << 60 // that a log may begin at
)

// head is what a group has on the disk beside its entries.
type head struct {
	shards int // how many there are: with other ones the same commands would come to something else
	term   int64
	voted  int
	base   int64 // the log's, and its term
	behind int64
	last   int64 // the log's last place
	side   int   // under which of two names the image stands
	size   int   // how many bytes it has
}

// record is what a group has on the disk.
type record struct {
	head
	is  bool // is there anything?
	log *rlog.Log
}

// keeper makes safe what a machine must not forget.
type keeper struct {
	store *store.Store
	trash []string // keys that count for nothing, until the next change is written
}

// open opens the store on a disk.
func (k *keeper) open(d *disk.Disk) api.Errno {
	s, why := store.Open(d)
	k.store = s
	return why
}

// load makes a group what the disk tells of it; false, if that can not be.
func (k *keeper) load(g *group, me, n int) bool {
	g.safe.head = head{shards: g.shards, voted: -1}
	if b, is := k.store.Get(headKey(g.number)); is {
		h, right := readHead(b)
		if !right || h.shards != g.shards {
			return false
		}
		g.safe.head, g.safe.is = h, true
	}
	log, is := k.readLog(g.number, g.safe.head)
	if !is {
		return false
	}
	g.safe.log = log
	h := g.safe.head
	r, why := raft.New(g.number, me, n, h.term, h.voted, log, h.base)
	if why != api.OK {
		return false
	}
	g.Raft = r
	return k.readImage(g)
}

// readHead answers the head that b is; false, if it can not be one.
func readHead(b []byte) (head, bool) {
	r := codec.NewReader(b)
	var h head
	h.shards = int(r.Int())
	h.term = r.Int()
	h.voted = int(r.Int())
	h.base = r.Int()
	h.behind = r.Int()
	h.last = r.Int()
	h.side = int(r.Int())
	h.size = int(r.Int())
	right := r.End() == api.OK &&
		h.base >= 0 && h.base <= mostPlace && h.last >= h.base && h.last-h.base <= api.MaxLog &&
		(h.side == 0 || h.side == 1) && h.size >= 0 && h.size <= api.MaxBytes
	return h, right
}

// bytes answers a head as bytes.
func (h head) bytes() []byte {
	b := codec.Int(nil, int64(h.shards))
	b = codec.Int(b, h.term)
	b = codec.Int(b, int64(h.voted))
	b = codec.Int(b, h.base)
	b = codec.Int(b, h.behind)
	b = codec.Int(b, h.last)
	b = codec.Int(b, int64(h.side))
	return codec.Int(b, int64(h.size))
}

// readLog answers the log of a group; false, if it can not be one.
func (k *keeper) readLog(number int, h head) (*rlog.Log, bool) {
	var l []api.Entry
	for at := h.base + 1; at <= h.last; at++ {
		b, is := k.store.Get(entryKey(number, at))
		r := codec.NewReader(b)
		var e api.Entry
		e.Term = r.Int()
		e.Cmd = r.Bytes()
		if !is || r.End() != api.OK || len(e.Cmd) > raft.MostCmd {
			return nil, false
		}
		l = append(l, e)
	}
	log, why := rlog.New(h.base, h.behind, l)
	return log, why == api.OK
}

// readImage makes a group what the image of its log's base tells, and its replica know that.
func (k *keeper) readImage(g *group) bool {
	h := g.safe.head
	if h.base == 0 {
		return h.size == 0
	}
	var image []byte
	for i := range h.pieces() {
		b, _ := k.store.Get(pieceKey(g.number, h.side, i))
		image = append(image, b...)
	}
	if len(image) != h.size || !g.restore(image) {
		return false
	}
	g.applied, g.image = h.base, image
	return g.Snapshot(h.base, image) == api.OK
}

// pieces answers in how many pieces the image stands.
func (h head) pieces() int {
	return (h.size + mostPiece - 1) / mostPiece
}

// sweep finds the keys that count for nothing; false, if one can not be a machine's.
func (k *keeper) sweep(groups []*group) bool {
	counts := map[string]struct{}{}
	for _, g := range groups {
		for _, key := range g.safe.keys(g.number) {
			counts[key] = struct{}{}
		}
	}
	for key := range k.store.Each("") {
		if _, is := counts[key]; is {
			continue
		}
		if !canBeTrash(key, groups) {
			return false
		}
		k.trash = append(k.trash, key)
	}
	return true
}

// keys answers under which keys a group stands on the disk.
func (r record) keys(number int) []string {
	if !r.is {
		return nil
	}
	l := []string{headKey(number)}
	for at := r.base + 1; at <= r.last; at++ {
		l = append(l, entryKey(number, at))
	}
	return append(l, r.imageKeys(number)...)
}

// imageKeys answers under which keys the image stands.
func (h head) imageKeys(number int) []string {
	var l []string
	for i := range h.pieces() {
		l = append(l, pieceKey(number, h.side, i))
	}
	return l
}

// canBeTrash tells whether a key that counts for nothing is one of an entry or of a piece of a group that has a head.
func canBeTrash(key string, groups []*group) bool {
	if len(key) < 3 {
		return false
	}
	number := int(key[1]) - '0'
	if number < 0 || number >= len(groups) || !groups[number].safe.is {
		return false
	}
	rest := key[2:]
	if key[0] == pieceKind {
		if rest[0] > 1 {
			return false
		}
		rest = rest[1:]
	}
	r := codec.NewReader([]byte(rest))
	r.Uint()
	return r.End() == api.OK && (key[0] == entryKind || key[0] == pieceKind)
}

// The kinds of keys, by their first byte.
const (
	headKind  = 'h'
	entryKind = 'e'
	pieceKind = 's'
)

// keyOf answers a key: its kind, its group, and what else tells it from others.
func keyOf(kind byte, number int, rest ...byte) string {
	return string(append([]byte{kind, byte('0' + number)}, rest...))
}

func headKey(number int) string {
	return keyOf(headKind, number)
}

func entryKey(number int, at int64) string {
	return keyOf(entryKind, number, codec.Uint(nil, uint64(at))...)
}

func pieceKey(number, side, i int) string {
	return keyOf(pieceKind, number, codec.Uint([]byte{byte(side)}, uint64(i))...)
}
