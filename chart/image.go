package chart

import (
	"almoner/api"
	"almoner/codec"
)

// mostImage is how many bytes an image may have.
const mostImage = 1000

// Image answers all that the chart is as bytes.
func (c *Chart) Image() []byte {
	if c == nil {
		return nil
	}
	b := codec.Int(nil, int64(c.shards))
	for _, x := range c.slots {
		b = codec.Int(b, int64(x.owner))
		b = codec.Int(b, x.epoch)
	}
	b = codec.Int(b, c.began)
	b = codec.Int(b, int64(c.move.Slot))
	b = codec.Int(b, int64(c.move.From))
	b = codec.Int(b, int64(c.move.To))
	b = codec.Int(b, c.move.Epoch)
	b = codec.Int(b, int64(c.move.Phase))
	b = codec.Int(b, c.move.N)
	b = codec.Int(b, c.audit.n)
	return codec.Int(b, int64(c.audit.phase))
}

// Load answers the chart whose image these bytes are.
func Load(b []byte) (*Chart, api.Errno) {
	if len(b) > mostImage {
		return nil, api.ErrSize
	}
	r := codec.NewReader(b)
	c := &Chart{}
	c.get(r)
	switch {
	case r.End() != api.OK:
		return nil, r.End()
	case !c.isSound() || !c.isMoveSound() || !c.isAuditSound():
		return nil, api.ErrForm
	}
	return c, api.OK
}

// get reads an image.
func (c *Chart) get(r *codec.Reader) {
	c.shards = int(r.Int())
	for i := range c.slots {
		x := &c.slots[i]
		x.owner = int(r.Int())
		x.epoch = r.Int()
	}
	c.began = r.Int()
	c.move.Slot = int(r.Int())
	c.move.From = int(r.Int())
	c.move.To = int(r.Int())
	c.move.Epoch = r.Int()
	c.move.Phase = int(r.Int())
	c.move.N = r.Int()
	c.audit.n = r.Int()
	c.audit.phase = int(r.Int())
}

// isSound tells whether there can be such slots, and so many begun, and not a move and an audit at once.
func (c *Chart) isSound() bool {
	for _, x := range c.slots {
		if !c.isShard(x.owner) || !isCount(x.epoch) {
			return false
		}
	}
	return canBe(c.shards) && isCount(c.began) && (c.move.Phase == Idle || c.audit.phase == Idle)
}

// isCount tells whether this can be an epoch, or how many began.
func isCount(n int64) bool {
	return n >= 0 && n <= mostBegun
}

// isNumber tells whether this can be the number of what began.
func (c *Chart) isNumber(n int64) bool {
	return n >= 1 && n <= c.began
}

// isMoveSound tells whether there can be such a move.
func (c *Chart) isMoveSound() bool {
	m := c.move
	switch m.Phase {
	case Idle:
		return m == Moving{}
	case Hold, Install:
		return c.isPathSound() && m.Epoch > c.Epoch(m.Slot)
	case Drop:
		return c.isPathSound() && m.Epoch == c.Epoch(m.Slot)
	}
	return false
}

// isPathSound tells whether a slot can move so, whatever its phase.
func (c *Chart) isPathSound() bool {
	m := c.move
	return isSlot(m.Slot) && c.isShard(m.From) && c.isShard(m.To) && m.From != m.To && isCount(m.Epoch) && c.isNumber(m.N)
}

// isAuditSound tells whether there can be such an audit.
func (c *Chart) isAuditSound() bool {
	switch c.audit.phase {
	case Idle:
		return c.audit.n == 0
	case Collect, Thaw:
		return c.isNumber(c.audit.n)
	}
	return false
}
