package store

import (
	"slices"

	"almoner/api"
	"almoner/codec"
)

// Batch answers the bytes of a batch.
func Batch(l []api.Pair) ([]byte, api.Errno) {
	if slices.ContainsFunc(l, refused) {
		return nil, api.ErrArg
	}
	b := codec.Uint(nil, uint64(len(l)))
	for _, p := range l {
		b = append(b, encoded(p)...)
		// A list may be far too long: nothing more of it is encoded than it takes to see that.
		if len(b) > api.MaxRecord {
			return nil, api.ErrSize
		}
	}
	return b, api.OK
}

// Unbatch answers the pairs of the batch that b is.
func Unbatch(b []byte) ([]api.Pair, api.Errno) {
	if len(b) > api.MaxRecord {
		return nil, api.ErrSize
	}
	r := codec.NewReader(b)
	var l []api.Pair
	for range r.Count(api.MaxRecord) {
		l = append(l, readPair(r))
	}
	if why := r.End(); why != api.OK {
		return nil, why
	}
	if slices.ContainsFunc(l, refused) {
		return nil, api.ErrArg
	}
	return l, api.OK
}

// encoded answers the bytes of a pair.
func encoded(p api.Pair) []byte {
	b := codec.Text(nil, p.Key)
	b = codec.Bool(b, p.Del)
	return codec.Bytes(b, p.Val)
}

// readPair reads a pair.
func readPair(r *codec.Reader) api.Pair {
	var p api.Pair
	p.Key = r.Text()
	p.Del = r.Bool()
	p.Val = r.Bytes()
	return p
}

// refused tells whether a pair can not be one of a batch.
func refused(p api.Pair) bool {
	return !allowedKey(p.Key) || len(p.Val) > MostVal || p.Del && len(p.Val) > 0
}

// allowedKey tells whether a text can be a key.
func allowedKey(key string) bool {
	return len(key) >= 1 && len(key) <= MostKey
}
