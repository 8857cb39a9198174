package node

import (
	"almoner/api"
	"almoner/chart"
)

const (
	mostAhead  = 24   // how many entries may wait to be agreed on, ahead of one more that is taken
	leastAhead = 2    // the same, however small the disk is
	mostWeight = 4000 // bytes of entries behind which a log is compacted, however great the disk is
	growth     = 4    // how many bytes come of a byte of an entry, at most: a transfer is at two shards for a while, each of which has its id twice
)

// space is how much a machine may keep on its disk. A machine whose disk is full is dead, and with it, soon, all that keep the same: what would not have room is not begun.
type space struct {
	all    int // bytes that the store has room for, as far as they are told ahead
	weight int // bytes of entries behind which a log is compacted
	ahead  int // how many entries may wait to be agreed on
}

// spaceOf answers the space on a disk of so many sectors for so many groups.
func spaceOf(sectors, groups int) space {
	// A store's tree stands in one half of the disk, beside the next one. Of a page that many bytes are counted on, for all that keys and pages take beside them.
	const page = 180
	all := (sectors/2 - 2) / 2 * page
	weight := min(all/(8*groups), mostWeight)
	return space{all: all, weight: weight, ahead: max(min(weight/40, mostAhead), leastAhead)}
}

// weightOf answers how many bytes an entry takes.
func weightOf(e api.Entry) int {
	return len(e.Cmd) + 8
}

// compact makes the entries of a group's log go that are done, if they are many.
func (s space) compact(g *group) {
	if g.weight <= s.weight {
		return
	}
	image := g.picture()
	if g.Snapshot(g.applied, image) == api.OK {
		g.image, g.weight, g.touched = image, 0, true
	}
}

// takes tells whether a group may begin with an operation now.
func (s space) takes(all []*group, g *group, o api.Op) bool {
	return g.ahead() < s.ahead && (!grows(o) || s.needed(all, o.Kind == api.Move) <= s.all)
}

// grows tells whether there may be more to keep behind an operation.
func grows(o api.Op) bool {
	return o.Kind != api.Balance && o.Kind != api.Audit
}

// needed answers how many bytes all groups may need: what each has, and what its log grows by until it is compacted; a great image once more, as it is written beside the elder one; and a slot that moves, which is at both shards for a while.
func (s space) needed(all []*group, moves bool) int {
	sum, greatest := 0, 0
	for _, g := range all {
		size := g.size()
		sum += size + max(g.weight, s.weight) + g.coming()
		greatest = max(greatest, size)
		moves = moves || g.chart.Move().Phase != chart.Idle
	}
	if greatest > mostBatch/2 {
		sum += greatest
	}
	if moves {
		sum += greatest
	}
	return sum
}

// size answers how many bytes what its commands have made takes, or took when its log was compacted.
func (g *group) size() int {
	return max(len(g.image), len(g.picture()))
}

// coming answers how many bytes may come of what is not done yet, and of transfers that the other shard has not prepared.
func (g *group) coming() int {
	sum := 0
	for _, e := range g.Log().Part(g.applied+1, api.MaxLog) {
		sum += growth * weightOf(e)
	}
	for _, t := range g.shard.Pending() {
		if !t.Done {
			sum += 2*len(t.Id) + len(t.To)
		}
	}
	return sum
}
