package codec

import (
	"slices"

	"almoner/api"
)

// mostRows is how many rows an answer may have: those of all shards.
const mostRows = api.MaxRows * api.MaxShards

// PutOp answers b with an operation behind it, in new memory.
func PutOp(b []byte, o api.Op) []byte {
	b = addInt(slices.Clone(b), int64(o.Kind))
	b = addText(b, o.From)
	b = addText(b, o.To)
	b = addInt(b, o.Amount)
	b = addText(b, o.Key)
	b = addInt(b, int64(o.Slot))
	return addInt(b, int64(o.Shard))
}

// GetOp reads an operation. It answers no error: what stands ahead of one stays as it was read, and End tells of it.
func GetOp(r *Reader) api.Op {
	var o api.Op
	o.Kind = int(r.Int())
	o.From = r.Text()
	o.To = r.Text()
	o.Amount = r.Int()
	o.Key = r.Text()
	o.Slot = int(r.Int())
	o.Shard = int(r.Int())
	return o
}

// PutReply answers b with an answer behind it, in new memory.
func PutReply(b []byte, p api.Reply) []byte {
	b = addInt(slices.Clone(b), int64(p.Why))
	b = addInt(b, p.Amount)
	b = addUint(b, uint64(len(p.Rows)))
	for _, row := range p.Rows {
		b = addText(b, row.Name)
		b = addInt(b, row.Amount)
	}
	return b
}

// GetReply reads an answer, like GetOp: it has as many rows as Count tells, those behind an error being empty.
func GetReply(r *Reader) api.Reply {
	var p api.Reply
	p.Why = api.Errno(r.Int())
	p.Amount = r.Int()
	for range r.Count(mostRows) {
		p.Rows = append(p.Rows, getRow(r))
	}
	return p
}

func getRow(r *Reader) api.Row {
	var row api.Row
	row.Name = r.Text()
	row.Amount = r.Int()
	return row
}
