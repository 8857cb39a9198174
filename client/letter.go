package client

import (
	"almoner/api"
	"almoner/codec"
)

// The kinds of letters.
const (
	Raft   = 1 // a replica's message
	Call   = 2 // a client's operation
	Told   = 3 // the answer to it
	Ask    = 4 // a command that another group is asked to do
	Answer = 5 // what came of it
)

const (
	mostBytes = 16 * api.MaxBytes           // of a letter
	mostRows  = api.MaxRows * api.MaxShards // that an answer may have, as codec reads it
)

// Letter is what machines and clients send; which fields count, hangs on the kind.
type Letter struct {
	Kind  int
	N     int64
	Group int
	Op    api.Op
	Reply api.Reply
	Body  []byte
}

// Pack answers a letter as bytes.
func Pack(x Letter) ([]byte, api.Errno) {
	if x.Kind < Raft || x.Kind > Answer {
		return nil, api.ErrArg
	}
	x = counting(x)
	if !fits(x) {
		return nil, api.ErrSize
	}
	b := form(x)
	if len(b) > mostBytes {
		return nil, api.ErrSize
	}
	return b, api.OK
}

// counting answers a letter in which all that does not count in its kind is 0, so that nothing is refused for what nobody sends. Of those that have a Body, the kind that has less falls through to the one that has more.
func counting(x Letter) Letter {
	switch x.Kind {
	case Raft:
		x.N = 0
		fallthrough
	case Ask:
		x.Group = 0
		fallthrough
	case Answer:
		x.Op, x.Reply = api.Op{}, api.Reply{}
	case Call:
		x.Group, x.Reply, x.Body = 0, api.Reply{}, nil
	case Told:
		x.Group, x.Op, x.Body = 0, api.Op{}, nil
	}
	return x
}

// fits tells whether codec would read each part of a letter, as long as it is.
func fits(x Letter) bool {
	if len(x.Body) > api.MaxBytes || len(x.Reply.Rows) > mostRows || !short(x.Op.From, x.Op.To, x.Op.Key) {
		return false
	}
	for _, row := range x.Reply.Rows {
		if !short(row.Name) {
			return false
		}
	}
	return true
}

// short tells whether none of some texts is longer than a text may be.
func short(texts ...string) bool {
	for _, s := range texts {
		if len(s) > api.MaxBytes {
			return false
		}
	}
	return true
}

// form answers the bytes of a letter.
func form(x Letter) []byte {
	switch kind := int64(x.Kind); x.Kind {
	case Call:
		return codec.PutOp(ints(kind, x.N), x.Op)
	case Told:
		return codec.PutReply(ints(kind, x.N), x.Reply)
	case Ask:
		return codec.Bytes(ints(kind, x.N), x.Body)
	case Answer:
		return codec.Bytes(ints(kind, x.N, int64(x.Group)), x.Body)
	default:
		return codec.Bytes(ints(kind), x.Body)
	}
}

// ints answers numbers as bytes, one behind the other.
func ints(numbers ...int64) []byte {
	var b []byte
	for _, n := range numbers {
		b = codec.Int(b, n)
	}
	return b
}

// Unpack answers the letter that b is.
func Unpack(b []byte) (Letter, api.Errno) {
	if len(b) > mostBytes {
		return Letter{}, api.ErrSize
	}
	r := codec.NewReader(b)
	kind := r.Int()
	// A number has one byte at least: where none was read, the Reader met an error.
	if r.At() == 0 {
		return Letter{}, r.End()
	}
	if kind < Raft || kind > Answer {
		return Letter{}, api.ErrArg
	}
	x := read(int(kind), r)
	if why := r.End(); why != api.OK {
		return Letter{}, why
	}
	return x, api.OK
}

// read reads what stands behind a letter's kind. Of those that have a Body, the kind that has more falls through to the one that has less.
func read(kind int, r *codec.Reader) Letter {
	x := Letter{Kind: kind}
	if kind != Raft {
		x.N = r.Int()
	}
	switch kind {
	case Call:
		x.Op = codec.GetOp(r)
	case Told:
		x.Reply = codec.GetReply(r)
	case Answer:
		x.Group = int(r.Int())
		fallthrough
	default:
		x.Body = r.Bytes()
	}
	return x
}
