package shard

import (
	"strconv"

	"almoner/api"
	"almoner/codec"
)

// The kinds of commands.
const (
	CmdOp      = 1
	CmdPrepare = 2
	CmdDecide  = 3
	CmdFinish  = 4
	CmdEnd     = 5
	CmdFreeze  = 6
	CmdThaw    = 7
	CmdHold    = 8
	CmdInstall = 9
	CmdDrop    = 10
)

// Cmd is a command: what of it counts, hangs on its kind.
type Cmd struct {
	Kind  int
	Op    api.Op
	Id    string
	Name  string
	N     int64
	Why   api.Errno
	Slot  int
	Epoch int64
	At    int
	Last  bool
	Data  []byte
}

// Result is what came of a command; Wait: the answer comes later.
type Result struct {
	Why   api.Errno
	Wait  bool
	Reply api.Reply
	Data  []byte
}

// deed is what the commands of a kind do.
type deed struct {
	kind int
	do   func(c Cmd) Result
}

// deeds answers what this shard does with the commands of each kind.
func (s *Shard) deeds() []deed {
	return []deed{
		{CmdOp, s.operate},
		{CmdPrepare, s.prepare},
		{CmdDecide, s.decide},
		{CmdFinish, s.finish},
		{CmdEnd, s.end},
		{CmdFreeze, s.freeze},
		{CmdThaw, s.thaw},
		{CmdHold, s.holdBack},
		{CmdInstall, s.install},
		{CmdDrop, s.drop},
	}
}

// Do does a command, and answers what came of it.
func (s *Shard) Do(c Cmd) Result {
	if s == nil {
		return refused(api.ErrNil)
	}
	for _, d := range s.deeds() {
		if d.kind == c.Kind {
			return d.do(c)
		}
	}
	return refused(api.ErrArg)
}

// refused is the result of a command that an error ends; OK is none.
func refused(why api.Errno) Result {
	return Result{Why: why}
}

// told is the result of a command that was done, with an answer to an operation.
func told(why api.Errno) Result {
	return Result{Reply: api.Reply{Why: why}}
}

// Bytes answers a command as bytes.
func Bytes(c Cmd) []byte {
	b := codec.Int(nil, int64(c.Kind))
	b = codec.PutOp(b, c.Op)
	b = codec.Text(b, c.Id)
	b = codec.Text(b, c.Name)
	b = codec.Int(b, c.N)
	b = codec.Int(b, int64(c.Why))
	b = codec.Int(b, int64(c.Slot))
	b = codec.Int(b, c.Epoch)
	b = codec.Int(b, int64(c.At))
	b = codec.Bool(b, c.Last)
	return codec.Bytes(b, c.Data)
}

// Parse answers the command that b is.
func Parse(b []byte) (Cmd, api.Errno) {
	if len(b) > api.MaxBytes {
		return Cmd{}, api.ErrSize
	}
	r := codec.NewReader(b)
	var c Cmd
	c.Kind = int(r.Int())
	c.Op = codec.GetOp(r)
	c.Id = r.Text()
	c.Name = r.Text()
	c.N = r.Int()
	c.Why = api.Errno(r.Int())
	c.Slot = int(r.Int())
	c.Epoch = r.Int()
	c.At = int(r.Int())
	c.Last = r.Bool()
	c.Data = r.Bytes()
	if why := r.End(); why != api.OK {
		return Cmd{}, why
	}
	return c, api.OK
}

// Id answers the id of the transfer that began as the n-th one at the shard me.
func Id(o api.Op, me int, n int64) string {
	return o.From + "/" + o.Key + "/" + strconv.Itoa(me) + "." + strconv.FormatInt(n, 10)
}
