package cluster

import (
	"testing"

	"almoner/api"
	"almoner/disk"
	"almoner/store"
)

// storeWith is the image of a disk with a store that has a pair.
func storeWith(t *testing.T, p api.Pair) []byte {
	t.Helper()
	d, _ := disk.New(64)
	s, why := store.Open(d)
	if why == api.OK {
		why = s.Write([]api.Pair{p})
	}
	if why != api.OK {
		t.Fatalf("the store: %d", why)
	}
	return d.Image()
}
