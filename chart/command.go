package chart

import (
	"almoner/api"
	"almoner/codec"
)

// The kinds of commands.
const (
	CmdMove   = 1
	CmdStep   = 2
	CmdAudit  = 3
	CmdCut    = 4
	CmdThawed = 5
)

// mostBytes is how many bytes a command may have.
const mostBytes = 100

// Cmd is a command: what of it counts, hangs on its kind.
type Cmd struct {
	Kind  int
	Slot  int
	Shard int
	N     int64
	Phase int
}

// Result is what came of a command; Wait: the answer comes later; N: the number of what began, or went on.
type Result struct {
	Why  api.Errno
	Wait bool
	N    int64
}

// deed is what the commands of a kind do.
type deed struct {
	kind int
	do   func(x Cmd) Result
}

// deeds answers what this chart does with the commands of each kind.
func (c *Chart) deeds() []deed {
	return []deed{
		{CmdMove, c.beginMove},
		{CmdStep, c.step},
		{CmdAudit, c.beginAudit},
		{CmdCut, c.cut},
		{CmdThawed, c.thawed},
	}
}

// Do does a command, and answers what came of it.
func (c *Chart) Do(x Cmd) Result {
	if c == nil {
		return Result{Why: api.ErrNil}
	}
	for _, d := range c.deeds() {
		if d.kind == x.Kind {
			return d.do(x)
		}
	}
	return Result{Why: api.ErrArg}
}

// Bytes answers a command as bytes.
func Bytes(c Cmd) []byte {
	b := codec.Int(nil, int64(c.Kind))
	b = codec.Int(b, int64(c.Slot))
	b = codec.Int(b, int64(c.Shard))
	b = codec.Int(b, c.N)
	return codec.Int(b, int64(c.Phase))
}

// Parse answers the command that b is.
func Parse(b []byte) (Cmd, api.Errno) {
	if len(b) > mostBytes {
		return Cmd{}, api.ErrSize
	}
	r := codec.NewReader(b)
	var c Cmd
	c.Kind = int(r.Int())
	c.Slot = int(r.Int())
	c.Shard = int(r.Int())
	c.N = r.Int()
	c.Phase = int(r.Int())
	if why := r.End(); why != api.OK {
		return Cmd{}, why
	}
	return c, api.OK
}
