package btree

import (
	"iter"
	"slices"

	"almoner/api"
	"almoner/pager"
)

// writer writes the pages of a tree that comes to be.
type writer struct {
	pager   *pager.Pager
	written []int
}

// cutting goes through places of a level in parts, each of which has room in a page.
type cutting func(level int, places []place) iter.Seq[[]place]

// packed cuts places such that each page is as full as it can be.
func packed(level int, places []place) iter.Seq[[]place] {
	return func(yield func([]place) bool) {
		start, filled := 0, 0
		for i, p := range places {
			if filled+p.bytes(level) > mostBytes {
				if !yield(places[start:i]) {
					return
				}
				start, filled = i, 0
			}
			filled += p.bytes(level)
		}
		if start < len(places) {
			yield(places[start:])
		}
	}
}

// halved leaves places in one part if a page has room for them; else it cuts them into two, as even as can be: pages that are half empty take more keys before they are cut again. Two are enough for a full page and a change of it.
func halved(level int, places []place) iter.Seq[[]place] {
	return func(yield func([]place) bool) {
		cut := middle(level, places)
		for _, part := range [2][]place{places[:cut], places[cut:]} {
			if len(part) > 0 && !yield(part) {
				return
			}
		}
	}
}

// middle answers where places are cut in two; behind them all, if one page has room for them.
func middle(level int, places []place) int {
	all := bytesOf(level, places)
	if all <= mostBytes {
		return len(places)
	}
	cut, least, left := 0, all, 0
	for i, p := range places {
		left += p.bytes(level)
		if greater := max(left, all-left); greater < least {
			cut, least = i+1, greater
		}
	}
	return cut
}

// lay writes places of a level part by part, each on a page, and answers the places of these pages one level above.
func (w *writer) lay(level int, parts iter.Seq[[]place]) ([]place, api.Errno) {
	var above []place
	for part := range parts {
		page, why := w.pager.Write(encoded(level, part))
		if why != api.OK {
			return nil, why
		}
		w.written = append(w.written, page)
		above = append(above, place{key: part[0].key, child: page})
	}
	return above, api.OK
}

// build writes places of a level, and levels above them up to one page, and answers the root.
func (w *writer) build(level int, places []place, cut cutting) (int, api.Errno) {
	if len(places) == 0 {
		return noPage, api.OK
	}
	for level == 0 || len(places) > 1 {
		above, why := w.lay(level, cut(level, places))
		if why != api.OK {
			return noPage, why
		}
		places = above
		level++
	}
	// One page below needs none above it.
	return places[0].child, api.OK
}

// takeBack releases what was written for a tree that did not come to be, and answers why it did not.
func (w *writer) takeBack(why api.Errno) api.Errno {
	for _, page := range w.written {
		w.pager.Release(page)
	}
	return why
}

// change makes the tree one in which the places of the leaf that a key belongs to are edited.
func (t *Tree) change(key string, edit func([]place) []place) api.Errno {
	w := writer{pager: t.pager}
	level, places, why := t.edited(&w, t.top(), key, edit)
	if why != api.OK {
		return w.takeBack(why)
	}
	root, why := w.build(level, places, halved)
	if why != api.OK {
		return w.takeBack(why)
	}
	t.root = root
	return api.OK
}

// edited writes the pages below a spot in which the edited leaf lies, and answers the level and the places of the page there, which is not yet written: the page above may join it with another one.
func (t *Tree) edited(w *writer, at spot, key string, edit func([]place) []place) (int, []place, api.Errno) {
	if at.page == noPage {
		return 0, edit(nil), api.OK
	}
	n, why := t.read(at)
	if why != api.OK {
		return 0, nil, why
	}
	places := slices.Clone(n.held())
	if n.level == 0 {
		return 0, edit(places), api.OK
	}
	i := n.way(key)
	level, below, why := t.edited(w, n.below(i), key, edit)
	if why != api.OK {
		return 0, nil, why
	}
	j, why := t.join(n, i, below)
	if why != api.OK {
		return 0, nil, why
	}
	above, why := w.lay(level, halved(level, j.places))
	if why != api.OK {
		return 0, nil, why
	}
	return n.level, slices.Replace(places, j.from, j.to, above...), api.OK
}

// joint is places of one level that stand for the pages at some places of the page above.
type joint struct {
	from, to int
	places   []place
}

// join answers the places below the place i of a page as they are now, if they are few together with a neighbour's.
func (t *Tree) join(n *node, i int, below []place) (joint, api.Errno) {
	few := bytesOf(n.level-1, below)
	if few == 0 || few >= thinBytes || n.count == 1 {
		return joint{i, i + 1, below}, api.OK
	}
	if i == 0 {
		right, why := t.read(n.below(1))
		if why != api.OK {
			return joint{}, why
		}
		return joint{0, 2, slices.Concat(below, right.held())}, api.OK
	}
	left, why := t.read(n.below(i - 1))
	if why != api.OK {
		return joint{}, why
	}
	return joint{i - 1, i + 1, slices.Concat(left.held(), below)}, api.OK
}
