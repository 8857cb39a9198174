package client

import (
	"bytes"
	"encoding/binary"
	"slices"
	"testing"

	"almoner/api"
)

// writer writes the forms as the document tells them, by the library's own numbers.
type writer struct{ b []byte }

func (w *writer) count(n int) {
	w.b = binary.AppendUvarint(w.b, uint64(n))
}

func (w *writer) int(l ...int64) {
	for _, n := range l {
		w.b = binary.AppendVarint(w.b, n)
	}
}

func (w *writer) text(l ...string) {
	for _, s := range l {
		w.count(len(s))
		w.b = append(w.b, s...)
	}
}

// letterBytes is a letter as it is to be written.
func letterBytes(x Letter) []byte {
	var w writer
	w.int(int64(x.Kind))
	if x.Kind != 1 {
		w.int(x.N)
	}
	switch x.Kind {
	case 2:
		w.int(int64(x.Op.Kind))
		w.text(x.Op.From, x.Op.To)
		w.int(x.Op.Amount)
		w.text(x.Op.Key)
		w.int(int64(x.Op.Slot), int64(x.Op.Shard))
	case 3:
		w.int(int64(x.Reply.Why), x.Reply.Amount)
		w.count(len(x.Reply.Rows))
		for _, row := range x.Reply.Rows {
			w.text(row.Name)
			w.int(row.Amount)
		}
	case 5:
		w.int(int64(x.Group))
	}
	if x.Kind == 1 || x.Kind > 3 {
		w.text(string(x.Body))
	}
	return w.b
}

// sameReply tells whether two answers are one.
func sameReply(a, b api.Reply) bool {
	return a.Why == b.Why && a.Amount == b.Amount && slices.Equal(a.Rows, b.Rows)
}

// sameLetter tells whether two letters are one.
func sameLetter(a, b Letter) bool {
	return a.Kind == b.Kind && a.N == b.N && a.Group == b.Group && a.Op == b.Op && sameReply(a.Reply, b.Reply) && bytes.Equal(a.Body, b.Body)
}

// wantPacked asks that a letter is written as these bytes.
func wantPacked(t *testing.T, x Letter, want []byte) {
	t.Helper()
	if b, why := Pack(x); why != api.OK || !bytes.Equal(b, want) {
		t.Errorf("Pack of %.200v: %.200x, %d; want %.200x", x, b, why, want)
	}
}

// wantNotPacked asks that a letter is refused.
func wantNotPacked(t *testing.T, x Letter, want api.Errno) {
	t.Helper()
	if b, why := Pack(x); why != want || len(b) != 0 {
		t.Errorf("Pack of %.200v: %d bytes, %d; want %d", x, len(b), why, want)
	}
}

// wantLetter asks that bytes are this letter.
func wantLetter(t *testing.T, b []byte, want Letter) {
	t.Helper()
	if x, why := Unpack(b); why != api.OK || !sameLetter(x, want) {
		t.Errorf("Unpack of %.200x: %.200v, %d; want %.200v", b, x, why, want)
	}
}

// wantNoLetter asks that bytes are refused.
func wantNoLetter(t *testing.T, b []byte, want api.Errno) {
	t.Helper()
	if x, why := Unpack(b); why != want || !sameLetter(x, Letter{}) {
		t.Errorf("Unpack of %d bytes, %.60x: %.200v, %d; want %d", len(b), b, x, why, want)
	}
}
