package serial

import (
	"maps"
	"slices"
	"strings"

	"almoner/api"
	"almoner/book"
)

// volumes is one book without a bound: it stands in as many books as it needs, since one takes MaxRows accounts alone.
type volumes struct {
	books []*book.Book   // all but the last one are full
	place map[string]int // which of them has an account
}

// of answers the book that has an account; one that has none, if no book does.
func (v *volumes) of(name string) *book.Book {
	at, is := v.place[name]
	if !is {
		return book.New()
	}
	return v.books[at]
}

// open makes an account be there.
func (v *volumes) open(name string) api.Errno {
	if _, is := v.place[name]; is {
		return api.ErrTwice
	}
	if v.place == nil {
		v.place = map[string]int{}
	}
	last := len(v.books) - 1
	if last < 0 || v.books[last].Len() >= api.MaxRows {
		v.books = append(v.books, book.New())
		last++
	}
	v.place[name] = last
	return v.books[last].Open(name)
}

// transfer takes money from one account and adds it to another one, or does nothing.
func (v *volumes) transfer(from, to string, n int64) api.Errno {
	if why := v.of(from).Take(from, n); why != api.OK {
		return why
	}
	why := v.of(to).Add(to, n)
	if why != api.OK {
		// It was there a moment ago, so that there is room for it.
		v.of(from).Add(from, n)
	}
	return why
}

// rows answers all accounts, in the order of their names.
func (v *volumes) rows() []api.Row {
	var rows []api.Row
	for _, b := range v.books {
		rows = slices.AppendSeq(rows, b.Each())
	}
	slices.SortFunc(rows, func(a, b api.Row) int { return strings.Compare(a.Name, b.Name) })
	return rows
}

// copied answers other volumes as they are.
func (v *volumes) copied() volumes {
	c := volumes{place: maps.Clone(v.place)}
	for _, b := range v.books {
		c.books = append(c.books, b.Copy())
	}
	return c
}
