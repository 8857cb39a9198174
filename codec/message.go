package codec

import "almoner/api"

// mostMsg is how many bytes a message may have in all.
const mostMsg = 16 * api.MaxBytes

// Msg answers a message as bytes.
func Msg(m api.Msg) ([]byte, api.Errno) {
	if len(m.Entries) > api.MaxLog || len(m.Data) > api.MaxBytes {
		return nil, api.ErrSize
	}
	b := addHead(nil, m)
	b = addUint(b, uint64(len(m.Entries)))
	for _, e := range m.Entries {
		// Asked for each entry: all of them together may be far more than a message holds.
		if len(e.Cmd) > api.MaxBytes || len(b) > mostMsg {
			return nil, api.ErrSize
		}
		b = addInt(b, e.Term)
		b = addBytes(b, e.Cmd)
	}
	b = addBytes(b, m.Data)
	if len(b) > mostMsg {
		return nil, api.ErrSize
	}
	return b, api.OK
}

// Unmsg answers the message that b is.
func Unmsg(b []byte) (api.Msg, api.Errno) {
	if len(b) > mostMsg {
		return api.Msg{}, api.ErrSize
	}
	r := &Reader{data: b}
	m := getHead(r)
	for range r.Count(api.MaxLog) {
		m.Entries = append(m.Entries, getEntry(r))
	}
	m.Data = r.Bytes()
	if why := r.End(); why != api.OK {
		return api.Msg{}, why
	}
	if !addressed(m) {
		return api.Msg{}, api.ErrArg
	}
	return m, api.OK
}

// addHead adds what stands ahead of a message's entries.
func addHead(b []byte, m api.Msg) []byte {
	b = addInt(b, int64(m.Kind))
	b = addInt(b, int64(m.Group))
	b = addInt(b, int64(m.From))
	b = addInt(b, int64(m.To))
	b = addInt(b, m.Term)
	b = addInt(b, m.Index)
	b = addInt(b, m.LogTerm)
	b = addInt(b, m.Commit)
	return addBool(b, m.Ok)
}

func getHead(r *Reader) api.Msg {
	var m api.Msg
	m.Kind = int(r.Int())
	m.Group = int(r.Int())
	m.From = int(r.Int())
	m.To = int(r.Int())
	m.Term = r.Int()
	m.Index = r.Int()
	m.LogTerm = r.Int()
	m.Commit = r.Int()
	m.Ok = r.Bool()
	return m
}

func getEntry(r *Reader) api.Entry {
	var e api.Entry
	e.Term = r.Int()
	e.Cmd = r.Bytes()
	return e
}

// addressed tells whether a message is of a kind, a group and machines that there can be.
func addressed(m api.Msg) bool {
	return m.Kind >= api.Vote && m.Kind <= api.SnapTold &&
		m.Group >= 0 && m.Group <= api.MaxShards &&
		isNode(m.From) && isNode(m.To)
}

func isNode(n int) bool {
	return n >= 0 && n < api.MaxNodes
}
