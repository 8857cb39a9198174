package node

import (
	"almoner/api"
	"almoner/chart"
	"almoner/codec"
	"almoner/raft"
	"almoner/shard"
)

// chartGroup is the number of the chart's group; the others are those of the shards.
const chartGroup = 0

// group is what a machine has of a group: its replica, and what the commands that are agreed on have made.
type group struct {
	*raft.Raft
	number  int
	shards  int
	chart   *chart.Chart // of the chart's group; nil of the others
	shard   *shard.Shard // of the others
	applied int64        // the place up to which commands are done
	image   []byte       // what those up to the log's base have made; none, if that is 0
	weight  int          // how many bytes the entries behind the base take that are done
	orders  map[int64]*order
	waits   map[matter]caller
	turn    int // how often it has asked for its transfers
	safe    record
	touched bool // may what is to be safe have changed?
}

// order is a command that was proposed here, and whoever is to learn what comes of it. What another leader proposes at its place has another term.
type order struct {
	term   int64
	cmd    string
	called bool
	caller caller // if it was called for
	askers []asker
	rows   []api.Row // of an audit that it cuts
}

// caller is a client, and the number of its call.
type caller struct {
	to int
	n  int64
}

// asker is a machine that asks, and the group that it does so for.
type asker struct {
	to    int
	group int64
}

// matter is what a call waits for: a transfer, by its id, or a move or an audit, by its number.
type matter struct {
	id string
	n  int64
}

// newGroup answers a group of which nothing is known yet, without a replica.
func newGroup(number, shards int) *group {
	g := &group{number: number, shards: shards, orders: map[int64]*order{}, waits: map[matter]caller{}}
	if number == chartGroup {
		g.chart, _ = chart.New(shards)
	} else {
		g.shard, _ = shard.New(number, shards)
	}
	return g
}

// picture answers what its commands have made.
func (g *group) picture() []byte {
	if g.number == chartGroup {
		return g.chart.Image()
	}
	return g.shard.Image()
}

// restore makes it what an image tells; false, if that is not one of this group.
func (g *group) restore(image []byte) bool {
	if g.number == chartGroup {
		c, why := chart.Load(image)
		if why != api.OK || c.Shards() != g.shards {
			return false
		}
		g.chart = c
		return true
	}
	s, why := shard.Load(image)
	r := codec.NewReader(image)
	me := r.Int()
	shards := r.Int()
	if why != api.OK || me != int64(g.number) || shards != int64(g.shards) {
		return false
	}
	g.shard = s
	return true
}

// leads tells whether its replica here leads.
func (g *group) leads() bool {
	return g.Info().Role == api.Leader
}

// ahead answers how many entries are not done yet.
func (g *group) ahead() int {
	last, _ := g.Log().Last()
	return int(last - g.applied)
}

// note keeps that a command was proposed.
func (g *group) note(at int64, cmd []byte) *order {
	o := &order{term: g.Info().Term, cmd: string(cmd)}
	g.orders[at] = o
	return o
}

// underWay answers the order of a command that was proposed here, stands in the log, and is not done yet; nil, if there is none.
func (g *group) underWay(cmd []byte) *order {
	log := g.Log()
	last, _ := log.Last()
	for at := g.applied + 1; at <= last; at++ {
		o := g.orders[at]
		if term, _ := log.Term(at); o != nil && o.term == term && o.cmd == string(cmd) {
			return o
		}
	}
	return nil
}

// claim answers the order of the entry at a place, and keeps it no more; an empty one, if the entry was proposed elsewhere.
func (g *group) claim(at, term int64) order {
	o := g.orders[at]
	delete(g.orders, at)
	if o == nil || o.term != term {
		return order{}
	}
	return *o
}

// release answers whose call waits for a matter, and keeps it no more.
func (g *group) release(m matter) (caller, bool) {
	who, is := g.waits[m]
	delete(g.waits, m)
	return who, is
}

// forget makes all go that waits for what a snapshot has passed over: what came of it is not known here.
func (g *group) forget() {
	for at := range g.orders {
		if at <= g.applied {
			delete(g.orders, at)
		}
	}
	open := g.open()
	for m := range g.waits {
		if _, is := open[m]; !is {
			delete(g.waits, m)
		}
	}
}

// open answers what calls may wait for.
func (g *group) open() map[matter]struct{} {
	l := map[matter]struct{}{}
	for _, t := range g.shard.Pending() {
		if !t.Done {
			l[matter{id: t.Id}] = struct{}{}
		}
	}
	if move := g.chart.Move(); move.Phase != chart.Idle {
		l[matter{n: move.N}] = struct{}{}
	}
	if n, phase := g.chart.Audit(); phase == chart.Collect {
		l[matter{n: n}] = struct{}{}
	}
	return l
}

// foresee answers what would come of a command of a shard, if it was proposed now: nothing can come between the log of a leader and what it puts behind it.
func (g *group) foresee(c shard.Cmd) shard.Result {
	s := g.shard.Copy()
	for _, e := range g.Log().Part(g.applied+1, api.MaxLog) {
		if ahead, why := shard.Parse(e.Cmd); why == api.OK {
			s.Do(ahead)
		}
	}
	return s.Do(c)
}
