package store

import (
	"fmt"
	"maps"
	"slices"
	"strings"
	"testing"

	"almoner/api"
	"almoner/disk"
)

func newDisk(t *testing.T, sectors int) *disk.Disk {
	t.Helper()
	d, why := disk.New(sectors)
	if why != api.OK {
		t.Fatalf("disk.New(%d): %d", sectors, why)
	}
	return d
}

func loadDisk(t *testing.T, image []byte) *disk.Disk {
	t.Helper()
	d, why := disk.Load(image)
	if why != api.OK {
		t.Fatalf("disk.Load: %d", why)
	}
	return d
}

func mustOpen(t *testing.T, d *disk.Disk) *Store {
	t.Helper()
	s, why := Open(d)
	if s == nil || why != api.OK {
		t.Fatalf("Open: %v, %d", s, why)
	}
	return s
}

// newStore is a store on a new disk of so many sectors.
func newStore(t *testing.T, sectors int) (*Store, *disk.Disk) {
	t.Helper()
	d := newDisk(t, sectors)
	return mustOpen(t, d), d
}

// batch is the pairs that a text tells: a=1 puts 1 under a, -a takes a away.
func batch(text string) []api.Pair {
	var l []api.Pair
	for _, word := range strings.Fields(text) {
		if key, is := strings.CutPrefix(word, "-"); is {
			l = append(l, api.Pair{Key: key, Del: true})
			continue
		}
		key, val, _ := strings.Cut(word, "=")
		l = append(l, api.Pair{Key: key, Val: []byte(val)})
	}
	return l
}

func mustWrite(t *testing.T, s *Store, l []api.Pair) {
	t.Helper()
	if why := s.Write(l); why != api.OK {
		t.Fatalf("Write of %d pairs: %d", len(l), why)
	}
}

func mustCheckpoint(t *testing.T, s *Store) {
	t.Helper()
	if why := s.Checkpoint(); why != api.OK {
		t.Fatalf("Checkpoint: %d", why)
	}
}

func mustBatch(t *testing.T, l []api.Pair) []byte {
	t.Helper()
	b, why := Batch(l)
	if why != api.OK {
		t.Fatalf("Batch of %d pairs: %d", len(l), why)
	}
	return b
}

// told is the pairs whose keys begin with head, as a text.
func told(s *Store, head string) string {
	var l []string
	for k, v := range s.Each(head) {
		l = append(l, fmt.Sprintf("%s=%s", k, v))
	}
	return strings.Join(l, " ")
}

func wantTold(t *testing.T, s *Store, want string) {
	t.Helper()
	if got := told(s, ""); got != want {
		t.Fatalf("it has %.200q, want %.200q", got, want)
	}
}

// mapOf is what is there behind batches, one behind the other.
func mapOf(batches ...[]api.Pair) map[string]string {
	m := map[string]string{}
	for _, l := range batches {
		for _, p := range l {
			if p.Del {
				delete(m, p.Key)
			} else {
				m[p.Key] = string(p.Val)
			}
		}
	}
	return m
}

// has is all that a store tells of itself.
func has(t *testing.T, s *Store) map[string]string {
	t.Helper()
	m := map[string]string{}
	var keys []string
	for k, v := range s.Each("") {
		keys = append(keys, k)
		m[k] = string(v)
		if got, is := s.Get(k); string(got) != string(v) || !is {
			t.Fatalf("Get(%q): %.50q, %v; Each tells %.50q", k, got, is, v)
		}
	}
	if !slices.IsSorted(keys) || s.Len() != len(m) || len(keys) != len(m) {
		t.Fatalf("Len %d, and the keys are %q", s.Len(), keys)
	}
	return m
}

// wantStore holds all that a store tells against what is to be in it.
func wantStore(t *testing.T, s *Store, want map[string]string) {
	t.Helper()
	if got := has(t, s); !maps.Equal(got, want) {
		t.Fatalf("it has %d keys, want %d: %.300q, want %.300q", len(got), len(want), got, want)
	}
}

// wantDead asks that a store is dead, refuses all that could change something, and tells what it had.
func wantDead(t *testing.T, s *Store, want map[string]string) {
	t.Helper()
	if !s.Dead() {
		t.Fatal("it is not dead")
	}
	for _, l := range [][]api.Pair{nil, batch("new=1"), {{Key: ""}}, {{Key: "k", Val: make([]byte, MostVal+1)}}} {
		if why := s.Write(l); why != api.ErrDead {
			t.Fatalf("Write: %d, want ErrDead", why)
		}
	}
	if why := s.Checkpoint(); why != api.ErrDead {
		t.Fatalf("Checkpoint: %d, want ErrDead", why)
	}
	wantStore(t, s, want)
}

// numbered is so many pairs with keys and values of so many bytes.
func numbered(n, key, val int) []api.Pair {
	var l []api.Pair
	for i := range n {
		k := fmt.Sprintf("%03d", i)
		l = append(l, api.Pair{Key: k + strings.Repeat("k", key-len(k)), Val: fill(i, val)})
	}
	return l
}

// fill is a value of so many bytes, each of which hangs on its place.
func fill(seed, size int) []byte {
	b := make([]byte, size)
	for i := range b {
		b[i] = byte(seed*31 + i*7 + i/256)
	}
	return b
}

// writeAll writes pairs one by one.
func writeAll(t *testing.T, s *Store, l []api.Pair) {
	t.Helper()
	for _, p := range l {
		mustWrite(t, s, []api.Pair{p})
	}
}
