package ledger

import (
	"fmt"
	"slices"
	"testing"

	"almoner/api"
	"almoner/crc"
)

// crowd opens so many accounts in each shard, with something in each, and answers their names.
func crowd(t *testing.T, l *Ledger, shards, each int) []string {
	t.Helper()
	var names []string
	has := map[int]int{}
	for k := 0; len(names) < shards*each; k++ {
		name := fmt.Sprint("a", k)
		if s := crc.Slot(name) % shards; has[s] < each {
			has[s]++
			names = append(names, name)
			wantWhy(t, l, openOf(name, "o"), api.OK)
			wantWhy(t, l, depositOf(name, 9, "d"), api.OK)
		}
	}
	return names
}

// arrive lets all that is on its way arrive, without a tick.
func arrive(l *Ledger) {
	for l.Cluster().Flight() > 0 {
		l.Step(api.Event{Kind: api.EvDeliver})
	}
}

// P22.6: with as many transfers as there can be half done, a slot that moves or an audit that has begun, and all letters on their way that there can be, all comes to rest behind a Restart, and each operation is answered, in far fewer rounds than are enough.
func TestAtRestSoon(t *testing.T) {
	for n := 1; n <= api.MaxNodes; n += 2 {
		for shards := 1; shards <= api.MaxShards; shards++ {
			for kind := shards % 2; kind < 4; kind += 2 {
				l := newLedger(t, n, shards)
				names := crowd(t, l, shards, 60)
				wantPower(t, l, nil)
				wantQuiet(t, l)
				begin(l, names, kind)
				flood(l, kind)
				if kind%2 == 0 {
					wantRestart(t, l)
					wantQuiet(t, l)
				}
				wantRestart(t, l)
				wantSoon(t, l, api.Op{Kind: []int{api.Audit, api.Move}[kind/2], Shard: 1})
				wantSoon(t, l, transferOf(names[0], names[1], 1, "u"))
				wantSoon(t, l, transferOf(names[2], names[3], 1, "t"))
				wantQuiet(t, l)
				wantSum(t, l, int64(9*len(names)))
				if t.Failed() {
					t.Fatalf("%d machines, %d shards, %d", n, shards, kind)
				}
			}
		}
	}
}

// begin lets a transfer of each account begin, and a move, or an audit.
func begin(l *Ledger, names []string, kind int) {
	c := l.Cluster()
	for k, name := range names {
		for i := range c.Nodes() {
			l.Step(api.Event{Kind: api.EvCall, Node: i, Op: transferOf(name, names[(k+1+k%7)%len(names)], 1, "t")})
		}
		arrive(l)
	}
	o := api.Op{Kind: api.Audit}
	if kind%2 == 1 {
		o = api.Op{Kind: api.Move, Slot: crc.Slot(names[0]), Shard: 1}
		o.Shard += c.Node(c.Leader(0)).Chart().Owner(o.Slot) % l.shards
	}
	l.Step(api.Event{Kind: api.EvCall, Node: c.Leader(0), Op: o})
	arrive(l)
}

// flood lets as many letters be on their way as there can be.
func flood(l *Ledger, kind int) {
	for i := range l.Cluster().Nodes() {
		l.Step(at(api.EvTick, i))
		for k := range 50 {
			l.Step(api.Event{Kind: api.EvCall, Node: i, Op: balanceOf(fmt.Sprint("a", k))})
		}
	}
	for k := 0; l.Cluster().Flight() < api.MaxFlight; k++ {
		l.Step(api.Event{Kind: api.EvDouble, N: k * kind / 2})
	}
}

// wantSoon asks that an operation is answered in at most half of the rounds that are enough.
func wantSoon(t *testing.T, l *Ledger, o api.Op) {
	t.Helper()
	before := l.Cluster().Calls()
	if r := l.Do(o); r.Why == api.ErrRetry || l.Cluster().Calls()-before > l.Bound()/2 {
		t.Errorf("Do(%+v): %+v behind %d rounds", o, r, l.Cluster().Calls()-before)
	}
}

// P22.6: of names and keys that are not long, each shard answers as many operations as it keeps answers; one more is told ErrRetry, and nothing was done.
func TestRoom(t *testing.T) {
	for shards := 1; shards <= api.MaxShards; shards++ {
		l := newLedger(t, 3, shards)
		names := crowd(t, l, shards, 50)
		slices.SortFunc(names, func(a, b string) int { return crc.Slot(a)%shards - crc.Slot(b)%shards })
		sum := int64(9 * len(names))
		for k := range api.MaxKept - 100 {
			for s := range shards {
				from, to := names[50*s+k%50], names[(50*s+k*7+51)%len(names)]
				if from == to {
					to = names[(50*s+k*7+52)%len(names)]
				}
				wantWhy(t, l, transferOf(from, to, 1, fmt.Sprint("t", k)), api.OK)
			}
			if k%40 == 0 {
				wantPower(t, l, nil) // the desk has room again
			}
		}
		wantSum(t, l, sum)
		wantRestart(t, l)
		wantQuiet(t, l)
		wantWhy(t, l, depositOf(names[0], 1, "e"), api.ErrRetry)
		wantWhy(t, l, depositOf(names[0], 9, "d"), api.OK)
		wantSum(t, l, sum)
	}
}
