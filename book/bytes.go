package book

import (
	"bytes"

	"almoner/api"
	"almoner/codec"
)

// Bytes answers all accounts as bytes.
func (b *Book) Bytes() []byte {
	if b == nil {
		return nil
	}
	p := codec.Uint(nil, uint64(len(b.accounts)))
	b.each(func(a account) { p = append(p, a.bytes()...) })
	return p
}

// bytes answers an account as bytes, in memory of its own: the whole book would be copied anew for each of its parts.
func (a account) bytes() []byte {
	p := codec.Text(nil, a.row.Name)
	p = codec.Int(p, a.row.Amount)
	return codec.Text(p, a.by)
}

// Load answers the book whose bytes these are.
func Load(p []byte) (*Book, api.Errno) {
	r := codec.NewReader(p)
	b := New()
	for range r.Count(api.MaxRows) {
		b.read(r)
	}
	if why := r.End(); why != api.OK {
		return nil, why
	}
	// Accounts that can not be were not put, and others may stand elsewhere: then p is not how the book is written.
	if !bytes.Equal(b.Bytes(), p) {
		return nil, api.ErrForm
	}
	return b, api.OK
}

// read puts the account that is read next into the book, if there can be such a one.
func (b *Book) read(r *codec.Reader) {
	var a account
	a.row.Name = r.Text()
	a.row.Amount = r.Int()
	a.by = r.Text()
	if b.Put(a.row) == api.OK && a.by != "" {
		b.Hold(a.row.Name, a.by)
	}
}
