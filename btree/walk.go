package btree

import (
	"iter"
	"slices"

	"almoner/api"
)

// top answers where the root lies.
func (t *Tree) top() spot {
	return spot{page: t.root, level: anyLevel}
}

// read answers the page that lies at a spot.
func (t *Tree) read(at spot) (*node, api.Errno) {
	b, why := t.pager.Read(at.page)
	if why != api.OK {
		return nil, why
	}
	n, right := decoded(b, at)
	if !right {
		return nil, api.ErrForm
	}
	return n, api.OK
}

// nodes goes through the pages that may have keys not ahead of from, and ahead of to (of an empty one: all), each ahead of those below it, and these in the order of their keys; it ends with the first error. No page is met twice, whatever stands there: the levels fall, and at one level the first keys rise.
func (t *Tree) nodes(from, to string) iter.Seq2[*node, api.Errno] {
	return func(yield func(*node, api.Errno) bool) {
		var ahead []spot
		if t.root != noPage {
			ahead = append(ahead, t.top())
		}
		for len(ahead) > 0 {
			last := len(ahead) - 1
			n, why := t.read(ahead[last])
			ahead = ahead[:last]
			if !yield(n, why) || why != api.OK {
				return
			}
			ahead = append(ahead, n.children(from, to)...)
		}
	}
}

// children answers where the pages below a page lie that may have keys not ahead of from, and ahead of to, the last one first.
func (n *node) children(from, to string) []spot {
	if n.level == 0 {
		return nil
	}
	var l []spot
	for i := range n.count {
		if s := n.below(i); s.meets(from, to) {
			l = append(l, s)
		}
	}
	slices.Reverse(l)
	return l
}

// pairs goes through the keys not ahead of from, and ahead of to (of an empty one: all), with their values, up to a page that can not be read.
func (t *Tree) pairs(from, to string) iter.Seq[place] {
	return func(yield func(place) bool) {
	walk:
		for n, why := range t.nodes(from, to) {
			switch {
			case why != api.OK:
				break walk
			case n.level > 0:
				continue
			}
			for _, p := range n.held() {
				if p.key < from {
					continue
				}
				if to != "" && p.key >= to || !yield(p) {
					break walk
				}
			}
		}
	}
}
