package node

import (
	"almoner/api"
	"almoner/chart"
	"almoner/shard"
)

// doAll does the commands that are agreed on, of all groups.
func (x *Node) doAll() {
	for _, g := range x.groups {
		x.install(g)
		x.doNew(g)
	}
}

// install takes a snapshot that came. A machine that can not load it could never do what is agreed on behind it.
func (x *Node) install(g *group) {
	at, image, is := g.Installed()
	if !is || x.dead {
		return
	}
	if !g.restore(image) {
		x.dead = true
		return
	}
	g.applied, g.image, g.weight = at, image, 0
	g.forget()
}

// doNew does the commands of a group that are agreed on and not done yet.
func (x *Node) doNew(g *group) {
	commit := g.Info().Commit
	if commit <= g.applied || x.dead {
		return
	}
	for _, e := range g.Log().Part(g.applied+1, int(commit-g.applied)) {
		g.applied++
		g.weight += weightOf(e)
		x.do(g, e, g.claim(g.applied, e.Term))
	}
}

// do does the command of an entry, and tells whoever waits for it. One that can not be read does nothing, on all machines alike.
func (x *Node) do(g *group, e api.Entry, o order) {
	if g.number == chartGroup {
		if c, why := chart.Parse(e.Cmd); why == api.OK {
			x.charted(g, c, g.chart.Do(c), o)
		}
		return
	}
	if c, why := shard.Parse(e.Cmd); why == api.OK {
		x.sharded(g, c, g.shard.Do(c), o)
	}
}

// charted tells what came of a command of the chart.
func (x *Node) charted(g *group, c chart.Cmd, r chart.Result, o order) {
	switch {
	case o.called && r.Wait:
		g.waits[matter{n: r.N}] = o.caller
	case o.called:
		x.tell(o.caller, api.Reply{Why: toldOf(c, r)})
	case c.Kind == chart.CmdStep && c.Phase == chart.Drop:
		x.end(g, matter{n: r.N}, api.Reply{})
	case c.Kind == chart.CmdCut && o.term > 0:
		x.end(g, matter{n: r.N}, api.Reply{Rows: o.rows})
	case c.Kind == chart.CmdCut:
		// Another machine has the rows.
		g.release(matter{n: r.N})
	}
}

// toldOf answers what is told of a command that does not wait. A right operation is refused as one after another, or with ErrRetry; there a move is always OK, and to a shard that there is not none is ever needed.
func toldOf(c chart.Cmd, r chart.Result) api.Errno {
	if c.Kind == chart.CmdMove && r.Why == api.ErrArg {
		return api.OK
	}
	return r.Why
}

// sharded tells what came of a command of a shard.
func (x *Node) sharded(g *group, c shard.Cmd, r shard.Result, o order) {
	for _, a := range o.askers {
		x.reply(g, a, c, r)
	}
	switch {
	case o.called && r.Wait:
		// What has begun last is the last one of its transfers.
		l := g.shard.Pending()
		g.waits[matter{id: l[len(l)-1].Id}] = o.caller
	case o.called:
		x.tell(o.caller, r.Reply)
	case c.Kind == shard.CmdDecide && r.Why == api.OK:
		x.end(g, matter{id: c.Id}, r.Reply)
	}
}

// end tells whoever waits for a matter what came of it.
func (x *Node) end(g *group, m matter, r api.Reply) {
	if who, is := g.release(m); is {
		x.tell(who, r)
	}
}
