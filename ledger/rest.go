package ledger

// Bound answers how many rounds are enough for all to come to rest. One of the machines leads each group behind some 20 rounds, and the later the more of them there are; what is left over of full shards' transfers takes some 50 more, a slot that moves, and fills much of a disk, some 20, and an audit a few. With all letters on their way that there can be, no more than a quarter of what is answered here was ever seen to be needed.
func (l *Ledger) Bound() int {
	if l.isNone() {
		return 0
	}
	return 120 + 10*l.cluster.Nodes() + 20*l.shards
}

// Quiet lets rounds go by until nothing is busy, and answers how many; false, if as many as are enough were not.
func (l *Ledger) Quiet() (int, bool) {
	if l.isNone() {
		return 0, false
	}
	n := 0
	for ; n < l.Bound() && l.cluster.Busy() > 0; n++ {
		l.round()
	}
	return n, l.cluster.Busy() == 0
}
