package shard

import (
	"maps"
	"slices"

	"almoner/api"
	"almoner/book"
	"almoner/codec"
	"almoner/crc"
)

// isSlot tells whether there is a slot of this number.
func isSlot(n int) bool {
	return n >= 0 && n < api.Slots
}

// isHeld tells whether somebody holds an account of a slot.
func (s *Shard) isHeld(slot int) bool {
	return slices.ContainsFunc(s.accounts.Rows(slot), func(r api.Row) bool { return s.holds(r.Name) })
}

// cargo is what moves with a slot.
type cargo struct {
	accounts *book.Book
	kept     []answer
	done     []part
}

// load answers what is to move with a slot.
func (s *Shard) load(slot int) cargo {
	g := cargo{accounts: book.New()}
	for _, r := range s.accounts.Rows(slot) {
		g.accounts.Put(r)
	}
	for _, k := range s.answers() {
		if crc.Slot(k.op.From) == slot {
			g.kept = append(g.kept, k)
		}
	}
	for _, p := range s.done {
		if crc.Slot(p.name) == slot {
			g.done = append(g.done, p)
		}
	}
	return g
}

// bytes answers what moves with a slot as bytes.
func (g cargo) bytes() []byte {
	b := g.accounts.Bytes()
	b = append(b, answersBytes(g.kept)...)
	return append(b, partsBytes(g.done)...)
}

// readCargo answers what moves with a slot, if these bytes are that.
func readCargo(b []byte, slot int) (cargo, bool) {
	r := codec.NewReader(b)
	var g cargo
	g.accounts = getBook(r, b)
	g.kept = getAnswers(r)
	g.done = getParts(r)
	return g, r.End() == api.OK && g.accounts != nil && g.accounts.Held() == 0 && areKept(g.kept) && g.isOf(slot)
}

// isOf tells whether all of it is of a slot.
func (g cargo) isOf(slot int) bool {
	return len(g.accounts.Rows(slot)) == g.accounts.Len() &&
		!slices.ContainsFunc(g.kept, func(k answer) bool { return crc.Slot(k.op.From) != slot }) &&
		!slices.ContainsFunc(g.done, func(p part) bool { return crc.Slot(p.name) != slot })
}

// holdBack keeps a slot from changing, and tells what is to move with it once no account of it is held.
func (s *Shard) holdBack(c Cmd) Result {
	if !isSlot(c.Slot) {
		return refused(api.ErrArg)
	}
	x := &s.slots[c.Slot]
	if !x.owns || c.Epoch <= x.epoch {
		return refused(api.ErrState)
	}
	x.held = c.Epoch
	if s.isHeld(c.Slot) {
		return refused(api.ErrRetry)
	}
	return Result{Data: s.load(c.Slot).bytes()}
}

// install takes a piece of what moves with a slot; behind the last one the slot is its own.
func (s *Shard) install(c Cmd) Result {
	if !isSlot(c.Slot) || c.At < 0 {
		return refused(api.ErrArg)
	}
	x := &s.slots[c.Slot]
	switch {
	case c.Epoch <= x.epoch:
		return refused(api.OK)
	case x.owns:
		return refused(api.ErrState)
	case c.At == 0:
		x.come = arrival{epoch: c.Epoch}
	}
	switch {
	case x.come.epoch != c.Epoch || len(x.come.data) != c.At:
		return refused(api.ErrState)
	case len(x.come.data)+len(c.Data) > api.MaxBytes:
		return refused(api.ErrSize)
	}
	x.come.data = append(x.come.data, c.Data...)
	if !c.Last {
		return refused(api.OK)
	}
	return s.takeOver(c.Slot, c.Epoch)
}

// takeOver makes a slot its own, of which all has come. Whatever comes of that, what has come is needed no more.
func (s *Shard) takeOver(slot int, epoch int64) Result {
	x := &s.slots[slot]
	g, is := readCargo(x.come.data, slot)
	x.come = arrival{}
	switch {
	case !is:
		return refused(api.ErrForm)
	case !s.hasRoom(g):
		return refused(api.ErrFull)
	}
	for r := range g.accounts.Each() {
		s.accounts.Put(r)
	}
	for _, k := range g.kept {
		s.put(k)
	}
	s.done = append(s.done, g.done...)
	x.owns, x.epoch = true, epoch
	return refused(api.OK)
}

// hasRoom tells whether there is room for what moves with a slot.
func (s *Shard) hasRoom(g cargo) bool {
	return s.accounts.Len()+g.accounts.Len() <= api.MaxRows && len(g.kept) <= s.room() && len(g.done) <= s.partsRoom()
}

// drop forgets a slot that has moved away.
func (s *Shard) drop(c Cmd) Result {
	if !isSlot(c.Slot) {
		return refused(api.ErrArg)
	}
	x := &s.slots[c.Slot]
	switch {
	case x.owns && x.held != 0 && x.held == c.Epoch && !s.isHeld(c.Slot):
		s.forget(c.Slot)
		x.owns, x.epoch, x.held = false, c.Epoch, 0
	case x.owns || x.epoch < c.Epoch:
		return refused(api.ErrState)
	}
	return refused(api.OK)
}

// forget takes away what has moved with a slot.
func (s *Shard) forget(slot int) {
	s.accounts.Drop(slot)
	maps.DeleteFunc(s.kept, func(r request, _ answer) bool { return crc.Slot(r.from) == slot })
	s.done = slices.DeleteFunc(s.done, func(p part) bool { return crc.Slot(p.name) == slot })
}
