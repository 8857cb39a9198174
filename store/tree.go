package store

import (
	"slices"

	"almoner/api"
	"almoner/btree"
	"almoner/disk"
	"almoner/pager"
)

// A value stands in the tree in pieces, as it may have more bytes than a value of a tree. The key of a piece is that of the value with the piece's number, one byte, behind it; all pieces but the last one are full.

// pieceBytes is how many bytes a full piece and its key have together: three of that size fill a page of a tree, where but two of the greatest that it takes would have room.
const pieceBytes = 79

// mostNumber is the greatest Gen and the greatest Next that a root may have.
const mostNumber = 1 << 60

// fullPiece answers how many bytes a full piece of the value of a key has.
func fullPiece(key string) int {
	return pieceBytes - len(key) - 1
}

// cut answers the pieces of a value, in its memory; there is one at least, as an empty value must stand in the tree, too.
func cut(key string, val []byte) []api.Pair {
	var l []api.Pair
	full := fullPiece(key)
	for n := 0; n == 0 || n*full < len(val); n++ {
		from, to := n*full, min((n+1)*full, len(val))
		l = append(l, api.Pair{Key: key + string([]byte{byte(n)}), Val: val[from:to:to]})
	}
	return l
}

// join puts a piece that stands in the tree behind those that were met ahead of it; false, if it can not stand there.
func (s *Store) join(treeKey string, piece []byte) bool {
	last := len(treeKey) - 1
	key, n := treeKey[:last], int(treeKey[last])
	full := fullPiece(key)
	val := s.values[key]
	switch {
	case !allowedKey(key) || len(val) != n*full || len(piece) > full:
		return false
	case n > 0 && len(piece) == 0 || len(val)+len(piece) > MostVal:
		return false
	}
	s.values[key] = append(val, piece...)
	return true
}

// readTree takes what stands in the tree of a root, and keeps its pages from being written over.
func (s *Store) readTree(root pager.Root) api.Errno {
	t, why := btree.New(s.pager, root.Page)
	if why != api.OK {
		return why
	}
	// Each tells of no error: that there is none is asked for ahead of it.
	if why := t.Right(); why != api.OK {
		return why
	}
	pages, why := t.Pages()
	if why != api.OK {
		return why
	}
	// A store writes no Meta.
	if len(root.Meta) > 0 {
		return api.ErrForm
	}
	for key, piece := range t.Each("", "") {
		if !s.join(key, piece) {
			return api.ErrForm
		}
	}
	return s.pager.Use(pages)
}

// pieces answers all that is there as it stands in a tree.
func (s *Store) pieces() []api.Pair {
	var l []api.Pair
	for key, val := range s.values {
		l = append(l, cut(key, val)...)
	}
	slices.SortFunc(l, byKey)
	return l
}

// hasRoom tells whether there is room for a tree of these pairs beside the one that is safe. It is laid on another disk to see that: where there is none, nothing at all is to be written on the store's own.
func (s *Store) hasRoom(l []api.Pair) bool {
	sectors, _ := halves(s.sectors)
	d, _ := disk.New(sectors)
	p, _, _ := pager.Open(d, 0, sectors)
	all := p.Free()
	if _, why := btree.Load(p, l); why != api.OK {
		return false
	}
	// A tree has one half of the pages at most: the other one is left for the next tree, which may be as great.
	return all-p.Free() <= min(all/2, s.pager.Free())
}

// hasNumbers tells whether there is a number left for another root, and room in it for the journal's: on a disk that was made by hand they may be at their end, and what is flipped to then would not be found again.
func (s *Store) hasNumbers() bool {
	return s.pager.Root().Gen < mostNumber && s.journal.Next() <= mostNumber
}

// checkpoint makes all stand in a tree, and the journal empty.
func (s *Store) checkpoint() api.Errno {
	l := s.pieces()
	if !s.hasNumbers() || !s.hasRoom(l) {
		return api.ErrFull
	}
	t, why := btree.Load(s.pager, l)
	if why != api.OK {
		return why
	}
	pages, why := t.Pages()
	if why != api.OK {
		return why
	}
	next := s.journal.Next()
	if why := s.pager.Flip(t.Root(), next, nil, pages); why != api.OK {
		return why
	}
	return s.journal.Trim(next)
}
