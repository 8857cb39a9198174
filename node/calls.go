package node

import (
	"almoner/api"
	"almoner/book"
	"almoner/chart"
	"almoner/client"
	"almoner/shard"
)

// call takes a client's call.
func (x *Node) call(who caller, o api.Op) {
	if why := book.Wrong(o); why != api.OK {
		x.tell(who, api.Reply{Why: why})
		return
	}
	g := x.leading(o)
	if g == nil || !x.space.takes(x.groups, g, o) {
		x.tell(who, api.Reply{Why: api.ErrRetry})
		return
	}
	order := x.propose(g, command(o))
	if order == nil {
		x.tell(who, api.Reply{Why: api.ErrRetry})
		return
	}
	order.called, order.caller = true, who
}

// leading answers the group that an operation goes to, if its replica here leads; else nil.
func (x *Node) leading(o api.Op) *group {
	for _, g := range x.groups {
		if g.leads() && g.serves(o) {
			return g
		}
	}
	return nil
}

// serves tells whether an operation goes to the group.
func (g *group) serves(o api.Op) bool {
	if client.Group(o) == chartGroup {
		return g.number == chartGroup
	}
	return g.shard.Owns(o.From)
}

// command answers the command for an operation.
func command(o api.Op) []byte {
	switch o.Kind {
	case api.Audit:
		return chart.Bytes(chart.Cmd{Kind: chart.CmdAudit})
	case api.Move:
		return chart.Bytes(chart.Cmd{Kind: chart.CmdMove, Slot: o.Slot, Shard: o.Shard})
	}
	return shard.Bytes(shard.Cmd{Kind: shard.CmdOp, Op: counting(o)})
}

// counting answers an operation on an account without what plays no part in its kind: that may be more than a command has room for.
func counting(o api.Op) api.Op {
	c := api.Op{Kind: o.Kind, From: o.From}
	switch o.Kind {
	case api.Transfer:
		c.To = o.To
		fallthrough
	case api.Deposit, api.Withdraw:
		c.Amount = o.Amount
		fallthrough
	case api.Open:
		c.Key = o.Key
	}
	return c
}
