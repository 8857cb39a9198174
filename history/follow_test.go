package history

import (
	"math/rand"
	"slices"
	"testing"

	"almoner/api"
	"almoner/serial"
)

// P21.3: calls that are done one after another are in order, and their order is as they were done.
func TestOneAfterAnother(t *testing.T) {
	for seed := range int64(2000) {
		r := rand.New(rand.NewSource(seed))
		ledger := serial.New()
		var l []Call
		var done []int
		for at := range r.Intn(Most + 1) {
			o := anyOp(r)
			l = append(l, told(o, 10*at, 10*at+r.Intn(10), ledger.Do(o)))
			done = append(done, at)
		}
		where := r.Perm(len(l))
		mixed := make([]Call, len(l))
		for at, to := range where {
			mixed[to], done[at] = l[at], to
		}
		wantOrder(t, mixed, done, true, api.OK)
	}
}

// linear tells whether calls are in order.
func linear(t *testing.T, l []Call) bool {
	t.Helper()
	is, why := Linear(l)
	if why != api.OK {
		t.Fatalf("Linear of %+v: %d", l, why)
	}
	return is
}

// P21.4: a call that was not told more takes no order away, nor does one that was told ErrRetry, more or less.
func TestMoreCalls(t *testing.T) {
	for seed := range int64(1500) {
		r := rand.New(rand.NewSource(seed))
		l := spoilt(r, anyCalls(r, r.Intn(6)))
		order, is, why := Order(l)
		if why != api.OK {
			continue
		}
		more := []Call{open(anyOp(r), r.Intn(30)-5), told(anyOp(r), r.Intn(30), r.Intn(30), retry)}
		at := r.Intn(len(l) + 1)
		if got := linear(t, slices.Insert(slices.Clone(l), at, more[0])); is && !got {
			t.Fatalf("seed %d: %+v is in order, and not with %+v", seed, l, more[0])
		}
		for n := range order {
			if order[n] >= at {
				order[n]++
			}
		}
		wantOrder(t, slices.Insert(slices.Clone(l), at, more[1]), order, is, api.OK)
		less := slices.DeleteFunc(slices.Clone(l), func(c Call) bool { return c.Told && c.Reply.Why == api.ErrRetry })
		if linear(t, less) != is {
			t.Fatalf("seed %d: %+v: %v, and without what was told ErrRetry not so", seed, l, is)
		}
		if t.Failed() {
			t.Fatal("seed", seed)
		}
	}
}

// P21.5: where calls are in order, they are so with each End later, and each Begin earlier.
func TestWider(t *testing.T) {
	wider, more := 0, 0
	for seed := range int64(3000) {
		r := rand.New(rand.NewSource(seed))
		l := anyCalls(r, 1+r.Intn(6))
		if r.Intn(2) == 0 {
			l = spoilt(r, l)
		}
		for n := range l { // as narrow as can be, at any time: often out of order
			if r.Intn(3) == 0 {
				l[n].Begin = r.Intn(20)
				l[n].End = l[n].Begin
			}
		}
		is, why := Linear(l)
		if why != api.OK {
			continue
		}
		w := slices.Clone(l)
		for n := range w {
			if r.Intn(2) == 0 {
				w[n].Begin -= r.Intn(20)
			}
			if r.Intn(2) == 0 {
				w[n].End += r.Intn(20)
			}
		}
		got := linear(t, w)
		if is && !got {
			t.Fatalf("seed %d: %+v is in order, and %+v is not", seed, l, w)
		}
		if is {
			wider++
		} else if got {
			more++
		}
	}
	if wider < 500 || more < 20 {
		t.Errorf("%d in order, %d so for being wider: too few to tell anything", wider, more)
	}
}
