package shard

import (
	"math"
	"testing"

	"almoner/api"
)

// P13.2, P13.7: which audits freeze a shard.
func TestFreeze(t *testing.T) {
	s := with(t, 2, open("ann", "o"), deposit("ann", 5, "d"))
	frozen := Result{Reply: api.Reply{Rows: []api.Row{{Name: "ann", Amount: 5}}}}
	for _, epoch := range []int64{math.MinInt64, -1, 0} {
		wantRefused(t, s, freeze(epoch), api.ErrState)
	}
	want(t, s, freeze(3), frozen)
	wantStill(t, s, freeze(3), frozen)
	wantRefused(t, s, freeze(2), api.ErrState)
	want(t, s, freeze(5), frozen)
	wantRefused(t, s, freeze(4), api.ErrState)
	if s.Frozen() != 5 || s.Busy() != 1 {
		t.Errorf("Frozen %d, Busy %d", s.Frozen(), s.Busy())
	}
	// An earlier audit that is over changes nothing of that.
	wantWhy(t, s, thaw(4), api.OK)
	wantRefused(t, s, thaw(4), api.OK)
	wantRefused(t, s, thaw(3), api.OK)
	wantStill(t, s, freeze(5), frozen)
	wantWhy(t, s, thaw(5), api.OK)
	if s.Frozen() != 0 || s.Busy() != 0 {
		t.Errorf("Frozen %d, Busy %d", s.Frozen(), s.Busy())
	}
	wantRefused(t, s, thaw(5), api.OK)
	for _, epoch := range []int64{0, 4, 5} {
		wantRefused(t, s, freeze(epoch), api.ErrState)
	}
	want(t, s, freeze(6), frozen)
	wantWhy(t, s, thaw(math.MaxInt64), api.OK)
	wantRefused(t, s, freeze(math.MaxInt64), api.ErrState)
	if s.Frozen() != 0 {
		t.Errorf("Frozen %d", s.Frozen())
	}
}

// P13.2: which audits can be over; a shard that was never frozen by one, too.
func TestThaw(t *testing.T) {
	s := mustNew(t, 1, 1)
	for _, epoch := range []int64{math.MinInt64, -1, 0} {
		wantRefused(t, s, thaw(epoch), api.ErrArg)
	}
	wantWhy(t, s, thaw(1), api.OK)
	wantRefused(t, s, freeze(1), api.ErrState)
	want(t, s, freeze(2), Result{})
	wantRefused(t, s, thaw(1), api.OK)
	if s.Frozen() != 2 {
		t.Errorf("Frozen %d", s.Frozen())
	}
	wantWhy(t, s, thaw(7), api.OK)
	if s.Frozen() != 0 {
		t.Errorf("Frozen %d", s.Frozen())
	}
	wantRefused(t, s, freeze(7), api.ErrState)
	want(t, s, freeze(8), Result{})
}

// P13.2, P4: the accounts are told once no transfer is half done.
func TestFreezeWaits(t *testing.T) {
	s := with(t, 2, open("ann", "o"), deposit("ann", 5, "d"))
	wantWait(t, s, transfer("ann", "dora", 2, "k"))
	wantWhy(t, s, freeze(1), api.ErrRetry)
	wantRefused(t, s, freeze(1), api.ErrRetry)
	wantWhy(t, s, freeze(2), api.ErrRetry)
	wantRefused(t, s, freeze(1), api.ErrState)
	if s.Frozen() != 2 {
		t.Errorf("Frozen %d", s.Frozen())
	}
	want(t, s, decide("ann/k/1.1", api.OK), Result{})
	want(t, s, freeze(2), Result{Reply: api.Reply{Rows: []api.Row{{Name: "ann", Amount: 3}}}})
	wantWhy(t, s, thaw(2), api.OK)
	wantWhy(t, s, prepare("x", "ann", 1), api.OK)
	wantWhy(t, s, freeze(3), api.ErrRetry)
	wantWhy(t, s, finish("x", "ann", api.ErrNone), api.OK)
	want(t, s, freeze(3), Result{Reply: api.Reply{Rows: []api.Row{{Name: "ann", Amount: 3}}}})
}

// P13.2: of an image whose numbers are below 0, none is not one that it is frozen by.
func TestFreezeBelowNothing(t *testing.T) {
	d := first(1, 1)
	d.over = -5
	s := mustLoad(t, d)
	wantRefused(t, s, freeze(-5), api.ErrState)
	want(t, s, freeze(-3), Result{})
	if s.Frozen() != -3 || s.Busy() != 1 {
		t.Errorf("Frozen %d, Busy %d", s.Frozen(), s.Busy())
	}
	wantRefused(t, s, freeze(-4), api.ErrState)
	wantOp(t, s, open("ann", "o"), api.ErrRetry)
	wantWhy(t, s, thaw(1), api.OK)
	wantOp(t, s, open("ann", "o"), api.OK)
}
