package txn

import (
	"almoner/api"
	"almoner/codec"
	"almoner/shard"
)

const (
	mostRows   = api.MaxRows * api.MaxShards // that an answer may have, as codec reads it
	mostResult = 16 * api.MaxBytes           // bytes of a result
)

// Bytes answers an ask as bytes.
func Bytes(a Ask) ([]byte, api.Errno) {
	b := codec.Int(nil, int64(a.Group))
	b = codec.Bytes(b, shard.Bytes(a.Cmd))
	if len(b) > api.MaxBytes {
		return nil, api.ErrSize
	}
	return b, api.OK
}

// Parse answers the ask that b is.
func Parse(b []byte) (Ask, api.Errno) {
	if len(b) > api.MaxBytes {
		return Ask{}, api.ErrSize
	}
	r := codec.NewReader(b)
	group := int(r.Int())
	command := r.Bytes()
	if why := r.End(); why != api.OK {
		return Ask{}, why
	}
	c, why := shard.Parse(command)
	switch {
	case why != api.OK:
		return Ask{}, why
	case group < 0 || group > api.MaxShards:
		return Ask{}, api.ErrArg
	}
	return Ask{Group: group, Cmd: c}, api.OK
}

// PutResult answers a result as bytes.
func PutResult(r shard.Result) ([]byte, api.Errno) {
	if len(r.Data) > api.MaxBytes || len(r.Reply.Rows) > mostRows {
		return nil, api.ErrSize
	}
	b := codec.Int(nil, int64(r.Why))
	b = codec.Bool(b, r.Wait)
	b = codec.PutReply(b, r.Reply)
	b = codec.Bytes(b, r.Data)
	if len(b) > mostResult {
		return nil, api.ErrSize
	}
	return b, api.OK
}

// GetResult answers the result that b is.
func GetResult(b []byte) (shard.Result, api.Errno) {
	if len(b) > mostResult {
		return shard.Result{}, api.ErrSize
	}
	r := codec.NewReader(b)
	var x shard.Result
	x.Why = api.Errno(r.Int())
	x.Wait = r.Bool()
	x.Reply = codec.GetReply(r)
	x.Data = r.Bytes()
	if why := r.End(); why != api.OK {
		return shard.Result{}, why
	}
	return x, api.OK
}
