package cluster

import (
	"almoner/api"
	"almoner/disk"
	"almoner/node"
)

// nobody stands for the machine that leads where none does.
const nobody = -1

// machines is the machines of a cluster, each on a disk of its own.
type machines struct {
	shards int
	disks  []*disk.Disk
	nodes  []*node.Node // nil of one that could not start
}

// has tells whether there is a machine of this number.
func (m *machines) has(i int) bool {
	return i >= 0 && i < len(m.nodes)
}

// node answers a machine that works; nil, of which nothing comes, if it does not.
func (m *machines) node(i int) *node.Node {
	if !m.has(i) || m.nodes[i].Dead() {
		return nil
	}
	return m.nodes[i]
}

// works tells whether a machine works.
func (m *machines) works(i int) bool {
	return m.node(i) != nil
}

// restart lets a machine start on its disk.
func (m *machines) restart(i int) {
	m.nodes[i], _ = node.New(i, len(m.nodes), m.shards, m.disks[i])
}

// crash lets the power of some machines go, and come again: those whose bit of which is 1.
func (m *machines) crash(which int, kept []int) {
	for i, d := range m.disks {
		if which>>i&1 == 1 {
			d.Crash(kept)
			m.restart(i)
		}
	}
}

// leader answers the machine that leads a group; of several the one of the greatest term, as the others do not know yet that they lead no more.
func (m *machines) leader(group int) int {
	leader, greatest := nobody, int64(0)
	for i := range m.nodes {
		info := m.node(i).Info(group)
		if info.Role == api.Leader && info.Term > greatest {
			leader, greatest = i, info.Term
		}
	}
	return leader
}

// busy answers how much is not at rest: of each group, as its leader has it.
func (m *machines) busy() int {
	count := 0
	for group := range m.shards + 1 {
		leader := m.node(m.leader(group))
		switch {
		case leader == nil:
			count++
		case group == 0:
			count += busyChart(leader)
		default:
			s := leader.Shard(group)
			count += s.Busy() + len(s.Pending())
		}
	}
	return count
}

// busyChart answers 1, if the chart of a machine has a move or an audit: those that there are have a number.
func busyChart(x *node.Node) int {
	c := x.Chart()
	if n, _ := c.Audit(); n != 0 || c.Move().N != 0 {
		return 1
	}
	return 0
}
