package node

import (
	"slices"

	"almoner/api"
	"almoner/codec"
	"almoner/rlog"
)

// mostBatch is how many bytes a batch has: the journal of the smallest disk has room for it.
const mostBatch = 4000

// save makes safe what has changed of a group.
func (k *keeper) save(g *group) api.Errno {
	if !g.touched {
		return api.OK
	}
	g.touched = false
	now := g.record()
	same := sameUpTo(g.safe.log, now.log)
	if now.head == g.safe.head && same == now.last {
		return api.OK
	}
	w := &writer{write: k.store.Write}
	w.remove(k.trash...)
	k.trash = nil
	w.change(g, now, same)
	w.flush()
	g.safe = now
	return w.why
}

// record answers what is to stand on the disk of a group. An image of another base stands under the other name, so that the elder one is there until the head tells of the new one.
func (g *group) record() record {
	info, log := g.Info(), g.Log()
	now := record{is: true, log: log}
	now.head = head{shards: g.shards, term: info.Term, voted: info.Voted, side: g.safe.side, size: len(g.image)}
	now.base, now.behind = log.Base()
	now.last, _ = log.Last()
	if now.base != g.safe.base {
		now.side = 1 - g.safe.side
	}
	return now
}

// sameUpTo answers the place up to which a log has on the disk what it has now.
func sameUpTo(safe, now *rlog.Log) int64 {
	at, _ := now.Base()
	last, _ := now.Last()
	for at < last {
		term, why := safe.Term(at + 1)
		if own, _ := now.Term(at + 1); why != api.OK || term != own {
			break
		}
		at++
	}
	return at
}

// writer writes pairs in batches, one behind the other; where the power goes between two of them, what stands there is right, too.
type writer struct {
	write func(l []api.Pair) api.Errno
	batch []api.Pair
	size  int
	why   api.Errno
}

// change writes what is new of a group, the log of which is the same up to a place.
func (w *writer) change(g *group, now record, same int64) {
	key, old := headKey(g.number), g.safe
	if !old.is {
		w.put(key, head{shards: now.shards, term: now.term, voted: now.voted}.bytes())
	}
	if now.base != old.base {
		for i, name := range now.imageKeys(g.number) {
			w.put(name, g.image[i*mostPiece:min((i+1)*mostPiece, now.size)])
		}
	}
	if same < old.last && same < now.last {
		// Entries of the elder log are written over: it must have ended ahead of them.
		short := now.head
		short.last = same
		w.put(key, short.bytes())
	}
	for i, e := range now.log.Part(same+1, api.MaxLog) {
		w.put(entryKey(g.number, same+1+int64(i)), codec.Bytes(codec.Int(nil, e.Term), e.Cmd))
	}
	w.put(key, now.bytes())
	w.remove(gone(old.keys(g.number), now.keys(g.number))...)
}

// gone answers which keys are there no more.
func gone(old, now []string) []string {
	kept := map[string]struct{}{}
	for _, key := range now {
		kept[key] = struct{}{}
	}
	return slices.DeleteFunc(old, func(key string) bool {
		_, is := kept[key]
		return is
	})
}

// put writes a value; one that stands in the batch under the same key gives way.
func (w *writer) put(key string, val []byte) {
	w.batch = slices.DeleteFunc(w.batch, func(p api.Pair) bool { return p.Key == key })
	w.add(api.Pair{Key: key, Val: slices.Clone(val)})
}

// remove takes keys away.
func (w *writer) remove(keys ...string) {
	for _, key := range keys {
		w.add(api.Pair{Key: key, Del: true})
	}
}

// add puts a pair into the batch, or, where it has no room, into the next one.
func (w *writer) add(p api.Pair) {
	const rest = 8 // bytes that a pair has beside its key and its value
	size := len(p.Key) + len(p.Val) + rest
	if w.size+size > mostBatch {
		w.flush()
	}
	w.batch = append(w.batch, p)
	w.size += size
}

// flush writes the batch.
func (w *writer) flush() {
	if w.why == api.OK && len(w.batch) > 0 {
		w.why = w.write(w.batch)
	}
	w.batch, w.size = nil, 0
}
