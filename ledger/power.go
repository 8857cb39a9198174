package ledger

import (
	"almoner/api"
	"almoner/cluster"
)

// Power lets all machines lose their power, each disk keeping what is said at its place; it goes on with new machines on what is left.
func (l *Ledger) Power(kept [][]int) api.Errno {
	if l.isNone() {
		return api.ErrNil
	}
	var images [][]byte
	for i := range l.cluster.Nodes() {
		d := l.cluster.Disk(i)
		if i < len(kept) {
			d.Crash(kept[i])
		}
		// What is safe is all that is left where nothing is said.
		images = append(images, d.Image())
	}
	c, why := cluster.Load(images, l.shards)
	if why != api.OK {
		return why
	}
	l.cluster = c
	l.notes.close()
	return api.OK
}

// Restart lets all machines stop and start again; all that they wrote is kept, and no disk is full any more.
func (l *Ledger) Restart() api.Errno {
	if l.isNone() {
		return api.ErrNil
	}
	n := l.cluster.Nodes()
	for i := range n {
		l.step(api.Event{Kind: api.EvFull, Node: i, N: 0})
	}
	l.step(api.Event{Kind: api.EvCrash, N: 1<<n - 1, L: l.whole()})
	return api.OK
}

// whole answers what keeps, of each disk, all writes that are not safe yet.
func (l *Ledger) whole() []int {
	var kept []int
	for i := range l.cluster.Nodes() {
		for range l.cluster.Disk(i).Unsynced() - len(kept) {
			kept = append(kept, api.Sector)
		}
	}
	return kept
}
