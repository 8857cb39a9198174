package shard

import (
	"cmp"
	"maps"
	"slices"
	"strings"

	"almoner/api"
	"almoner/book"
	"almoner/codec"
)

// mostImage is how many bytes an image may have.
const mostImage = 16 * api.MaxBytes

// awaited is a transfer's part that is prepared, and its amount.
type awaited struct {
	part
	n int64
}

// compareAwaited answers which of two prepared parts stands first: below 0, the first one.
func compareAwaited(a, b awaited) int {
	return cmp.Or(strings.Compare(a.id, b.id), strings.Compare(a.name, b.name))
}

// answers answers what is kept, in order.
func (s *Shard) answers() []answer {
	return slices.SortedFunc(maps.Values(s.kept), compareAnswers)
}

// waiting answers what is prepared, in order.
func (s *Shard) waiting() []awaited {
	var l []awaited
	for p, n := range s.prepared {
		l = append(l, awaited{part: p, n: n})
	}
	slices.SortFunc(l, compareAwaited)
	return l
}

// listBytes answers how many there are, and each of them. Each is written in memory of its own: the whole list would be copied anew for each of its parts.
func listBytes[T any](l []T, bytes func(x T) []byte) []byte {
	b := codec.Uint(nil, uint64(len(l)))
	for _, x := range l {
		b = append(b, bytes(x)...)
	}
	return b
}

// getList reads a list as listBytes writes it.
func getList[T any](r *codec.Reader, get func(r *codec.Reader) T) []T {
	var l []T
	for range r.Count(api.MaxBytes) {
		l = append(l, get(r))
	}
	return l
}

// rises tells whether each of a list stands behind the one ahead of it.
func rises[T any](l []T, compare func(a, b T) int) bool {
	for i := range len(l) - 1 {
		if compare(l[i], l[i+1]) >= 0 {
			return false
		}
	}
	return true
}

func answersBytes(l []answer) []byte {
	return listBytes(l, func(k answer) []byte { return codec.Int(codec.PutOp(nil, k.op), int64(k.why)) })
}

func getAnswers(r *codec.Reader) []answer {
	return getList(r, func(r *codec.Reader) answer {
		var k answer
		k.op = codec.GetOp(r)
		k.why = api.Errno(r.Int())
		return k
	})
}

// areKept tells whether a shard could have kept just these answers.
func areKept(l []answer) bool {
	return rises(l, compareAnswers) && !slices.ContainsFunc(l, func(k answer) bool { return !k.canBeKept() })
}

func partsBytes(l []part) []byte {
	return listBytes(l, func(p part) []byte { return codec.Text(codec.Text(nil, p.id), p.name) })
}

func getParts(r *codec.Reader) []part {
	return getList(r, getPart)
}

func getPart(r *codec.Reader) part {
	var p part
	p.id = r.Text()
	p.name = r.Text()
	return p
}

func awaitedBytes(l []awaited) []byte {
	return listBytes(l, func(a awaited) []byte { return codec.Int(codec.Text(codec.Text(nil, a.id), a.name), a.n) })
}

func getAwaited(r *codec.Reader) []awaited {
	return getList(r, func(r *codec.Reader) awaited {
		var a awaited
		a.part = getPart(r)
		a.n = r.Int()
		return a
	})
}

func txnsBytes(l []Txn) []byte {
	return listBytes(l, func(t Txn) []byte {
		b := codec.Text(nil, t.Id)
		b = codec.Text(b, t.From)
		b = codec.Text(b, t.Key)
		b = codec.Text(b, t.To)
		b = codec.Int(b, t.N)
		b = codec.Bool(b, t.Done)
		return codec.Int(b, int64(t.Why))
	})
}

func getTxns(r *codec.Reader) []Txn {
	return getList(r, func(r *codec.Reader) Txn {
		var t Txn
		t.Id = r.Text()
		t.From = r.Text()
		t.Key = r.Text()
		t.To = r.Text()
		t.N = r.Int()
		t.Done = r.Bool()
		t.Why = api.Errno(r.Int())
		return t
	})
}

// getBook reads the book that stands next in b; none, if there can be no such one.
func getBook(r *codec.Reader, b []byte) *book.Book {
	start := r.At()
	for range r.Count(api.MaxRows) {
		r.Text()
		r.Int()
		r.Text()
	}
	accounts, _ := book.Load(b[start:r.At()])
	return accounts
}

// Image answers all that the shard is as bytes.
func (s *Shard) Image() []byte {
	if s == nil {
		return nil
	}
	b := codec.Int(codec.Int(nil, int64(s.me)), int64(s.shards))
	for _, x := range s.slots {
		b = codec.Int(codec.Int(codec.Bool(b, x.owns), x.epoch), x.held)
	}
	b = append(b, s.accounts.Bytes()...)
	b = append(b, answersBytes(s.answers())...)
	b = append(b, txnsBytes(s.transfers)...)
	b = append(b, awaitedBytes(s.waiting())...)
	b = append(b, partsBytes(s.done)...)
	b = append(b, codec.Int(codec.Int(codec.Int(nil, s.frozen), s.over), s.began)...)
	for _, x := range s.slots {
		b = append(b, codec.Bytes(codec.Int(nil, x.come.epoch), x.come.data)...)
	}
	return b
}

// Load answers the shard whose image these bytes are.
func Load(b []byte) (*Shard, api.Errno) {
	if len(b) > mostImage {
		return nil, api.ErrSize
	}
	r := codec.NewReader(b)
	s := &Shard{}
	s.getHead(r)
	accounts := getBook(r, b)
	kept := getAnswers(r)
	s.transfers = getTxns(r)
	prepared := getAwaited(r)
	s.done = getParts(r)
	s.getTail(r)
	switch {
	case r.End() != api.OK:
		return nil, r.End()
	case accounts == nil || !areKept(kept) || !areAwaited(prepared) || !s.isSound():
		return nil, api.ErrForm
	}
	s.accounts = *accounts
	for _, k := range kept {
		s.put(k)
	}
	for _, a := range prepared {
		s.await(a.part, a.n)
	}
	return s, api.OK
}

// getHead reads what stands ahead of the book.
func (s *Shard) getHead(r *codec.Reader) {
	s.me = int(r.Int())
	s.shards = int(r.Int())
	for i := range s.slots {
		x := &s.slots[i]
		x.owns = r.Bool()
		x.epoch = r.Int()
		x.held = r.Int()
	}
}

// getTail reads what stands behind the done ones.
func (s *Shard) getTail(r *codec.Reader) {
	s.frozen = r.Int()
	s.over = r.Int()
	s.began = r.Int()
	for i := range s.slots {
		x := &s.slots[i]
		x.come.epoch = r.Int()
		x.come.data = r.Bytes()
	}
}

// areAwaited tells whether just these could be prepared.
func areAwaited(l []awaited) bool {
	return rises(l, compareAwaited) && !slices.ContainsFunc(l, func(a awaited) bool { return a.n < 1 })
}

// isSound tells whether there can be such a shard, as far as numbers tell.
func (s *Shard) isSound() bool {
	return canBe(s.me, s.shards) && s.began >= 0 && s.began <= mostBegun &&
		!slices.ContainsFunc(s.transfers, func(t Txn) bool { return t.N < 1 })
}
