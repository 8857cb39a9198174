package node

import (
	"iter"
	"slices"

	"almoner/api"
	"almoner/auditor"
	"almoner/chart"
	"almoner/client"
	"almoner/codec"
	"almoner/mover"
	"almoner/shard"
	"almoner/txn"
)

// The transfers of full shards, asked for and taken all at once, would fill the net: a leader sends an entry again with each one behind it, until it is told that the entry has come.
const (
	mostAsked = 8  // for how many transfers a shard asks with one tick
	mostTaken = 16 // how many entries may wait to be agreed on, ahead of one more that is asked for
)

// drive is what the leader of the chart drives its move and its audit by. Another leader may have gone on with them: in each term in which it leads it begins anew.
type drive struct {
	term    int64
	mover   *mover.Mover
	auditor *auditor.Auditor
}

// drives answers what the chart's move and audit are driven by in the term of its leader.
func (x *Node) drives() *drive {
	if term := x.Info(chartGroup).Term; x.drive.term != term {
		x.drive = drive{term: term, mover: mover.New(), auditor: auditor.New(x.shards())}
	}
	return &x.drive
}

// askAll asks all machines for what the groups need that are led from here.
func (x *Node) askAll() {
	for _, g := range x.groups {
		if !g.leads() {
			continue
		}
		for a := range x.asks(g) {
			x.askFor(g, a)
		}
	}
}

// askFor asks all machines for a command.
func (x *Node) askFor(g *group, a txn.Ask) {
	body, why := txn.Bytes(a)
	if why != api.OK {
		return
	}
	for to := range x.n {
		x.post(to, client.Letter{Kind: client.Ask, N: int64(g.number), Body: body})
	}
}

// asks goes through what a group that is led from here needs.
func (x *Node) asks(g *group) iter.Seq[txn.Ask] {
	if g.number != chartGroup {
		return g.transferAsks()
	}
	d := x.drives()
	moves, audits := d.mover.Asks(g.chart.Move()), d.auditor.Asks(g.chart.Audit())
	return func(yield func(txn.Ask) bool) {
		for _, l := range [...]iter.Seq[txn.Ask]{moves, audits} {
			for a := range l {
				if !yield(a) {
					return
				}
			}
		}
	}
}

// transferAsks goes through what a shard asks for its transfers. It asks itself, too, for those to an account whose slot has come to it since they began: no other shard could end them.
func (g *group) transferAsks() iter.Seq[txn.Ask] {
	const nobody = 0 // no shard has that number, so that none is left out
	l := g.next(g.shard.Pending())
	return func(yield func(txn.Ask) bool) {
		for a := range txn.Asks(nobody, g.shards, l) {
			if a.Group == g.number && !g.shard.Owns(a.Cmd.Name) {
				continue
			}
			if !yield(a) {
				return
			}
		}
	}
}

// next answers the transfers that are asked for now: all, or, where they are many, some more of them each time.
func (g *group) next(l []shard.Txn) []shard.Txn {
	if len(l) <= mostAsked {
		return l
	}
	from := g.turn * mostAsked % len(l)
	g.turn++
	return slices.Concat(l[from:], l[:from])[:mostAsked]
}

// ask takes what another group asks for: whoever leads the group that is asked proposes it.
func (x *Node) ask(from int, l client.Letter) {
	a, why := txn.Parse(l.Body)
	g := x.group(a.Group)
	if why != api.OK || g == nil || g.number == chartGroup || l.N < 0 || l.N > int64(x.shards()) || !g.leads() {
		return
	}
	if o := x.order(g, a.Cmd); o != nil {
		o.await(asker{to: from, group: l.N})
	}
}

// order answers the order of a command that is asked for; nil, if it is not taken now: it will be asked for again. One that is under way is not proposed once more.
func (x *Node) order(g *group, c shard.Cmd) *order {
	cmd := shard.Bytes(c)
	if o := g.underWay(cmd); o != nil {
		return o
	}
	if g.ahead() >= min(x.space.ahead, mostTaken) || !g.mayBegin(c) {
		return nil
	}
	return x.propose(g, cmd)
}

// mayBegin tells whether a command that is asked for may be done now. A slot is not held back while an account of it is held: a transfer that is prepared would be refused from then on when it is asked for again, and each would wait for the other one's end.
func (g *group) mayBegin(c shard.Cmd) bool {
	return c.Kind != shard.CmdHold || g.foresee(c).Why != api.ErrRetry
}

// await lets somebody learn what comes of an order, too.
func (o *order) await(a asker) {
	if !slices.Contains(o.askers, a) {
		o.askers = append(o.askers, a)
	}
}

// reply lets the result of a command go to a machine that has asked for it.
func (x *Node) reply(g *group, to asker, c shard.Cmd, r shard.Result) {
	ask, why := txn.Bytes(txn.Ask{Group: g.number, Cmd: c})
	if why != api.OK {
		return
	}
	result, why := txn.PutResult(r)
	if why != api.OK {
		return
	}
	body := append(codec.Bytes(nil, ask), result...)
	x.post(to.to, client.Letter{Kind: client.Answer, N: to.group, Group: g.number, Body: body})
}

// answer takes what came of something that was asked for: what follows is proposed, if the group that asked is led from here.
func (x *Node) answer(l client.Letter) {
	a, r, is := answered(l)
	if !is || l.N < 0 || l.N > int64(x.shards()) {
		return
	}
	g := x.groups[l.N]
	switch {
	case !g.leads():
	case g.number == chartGroup:
		x.goOn(g, a, r)
	default:
		x.decide(g, a, r)
	}
}

// answered answers what was asked for, and what came of it; false, if the letter does not tell that.
func answered(l client.Letter) (txn.Ask, shard.Result, bool) {
	reader := codec.NewReader(l.Body)
	ask := reader.Bytes()
	a, why := txn.Parse(ask)
	if why != api.OK || a.Group != l.Group {
		return txn.Ask{}, shard.Result{}, false
	}
	r, why := txn.GetResult(l.Body[reader.At():])
	return a, r, why == api.OK
}

// decide proposes what follows an answer for a transfer, if that is not done yet.
func (x *Node) decide(g *group, a txn.Ask, r shard.Result) {
	c, is := txn.Next(a, r)
	if !is || !g.needs(c) {
		return
	}
	if cmd := shard.Bytes(c); g.underWay(cmd) == nil {
		x.propose(g, cmd)
	}
}

// needs tells whether a transfer is there that a command would decide, or end.
func (g *group) needs(c shard.Cmd) bool {
	return slices.ContainsFunc(g.shard.Pending(), func(t shard.Txn) bool {
		return t.Id == c.Id && t.Done == (c.Kind == shard.CmdEnd)
	})
}

// goOn proposes what follows an answer for the chart's move, or for its audit.
func (x *Node) goOn(g *group, a txn.Ask, r shard.Result) {
	d := x.drives()
	if c, is := d.mover.Told(g.chart.Move(), a, r); is {
		x.proceed(g, c)
	}
	n, phase := g.chart.Audit()
	c, is := d.auditor.Told(n, phase, a, r)
	if !is {
		return
	}
	rows, _ := d.auditor.Rows()
	if o := x.proceed(g, c); o != nil {
		o.rows = rows
		return
	}
	// An auditor that has all answers asks for none any more.
	d.auditor = auditor.New(x.shards())
}

// proceed answers the order of a command that follows an answer; nil, if it is not taken.
func (x *Node) proceed(g *group, c chart.Cmd) *order {
	cmd := chart.Bytes(c)
	if o := g.underWay(cmd); o != nil {
		return o
	}
	return x.propose(g, cmd)
}
