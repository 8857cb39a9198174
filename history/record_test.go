package history

import (
	"math"
	"math/rand"
	"reflect"
	"testing"

	"almoner/api"
)

// wantCalls asks for all calls of a record.
func wantCalls(t *testing.T, r *Record, want ...Call) {
	t.Helper()
	if got := r.Calls(); len(got)+len(want) > 0 && !reflect.DeepEqual(got, want) {
		t.Fatalf("Calls: %+v; want %+v", got, want)
	}
}

// P21.2: what begins, and what is told, each at a time of its own.
func TestRecord(t *testing.T) {
	r := New()
	wantCalls(t, r)
	if n := r.Begin(openAnn); n != 0 {
		t.Errorf("Begin: %d; want 0", n)
	}
	if n := r.Begin(balance); n != 1 {
		t.Errorf("Begin: %d; want 1", n)
	}
	wantCalls(t, r, open(openAnn, 1), open(balance, 2))
	if !r.Told(0, retry) || r.Told(0, none) || r.Told(0, retry) {
		t.Error("Told of the call 0")
	}
	for _, n := range []int{-1, 2, math.MaxInt, math.MinInt} {
		if r.Told(n, none) {
			t.Errorf("Told(%d)", n)
		}
	}
	if n := r.Begin(api.Op{}); n != 2 {
		t.Errorf("Begin: %d; want 2", n)
	}
	if !r.Told(1, none) || r.Told(1, none) {
		t.Error("Told of the call 1")
	}
	wantCalls(t, r, told(openAnn, 1, 3, retry), told(balance, 2, 5, none), open(api.Op{}, 4))
}

// P21.2: of nil, and of one that nobody made.
func TestNilRecord(t *testing.T) {
	var r *Record
	if n := r.Begin(openAnn); n != -1 || r.Told(0, none) || len(r.Calls()) != 0 {
		t.Error("something is there of nil")
	}
	r = &Record{}
	if n := r.Begin(openAnn); n != 0 || !r.Told(0, none) {
		t.Error("Begin, Told")
	}
	wantCalls(t, r, told(openAnn, 1, 2, none))
}

// P21.2: there are at most MaxScript calls; one more changes nothing, not even the time.
func TestFullRecord(t *testing.T) {
	r := New()
	for n := range api.MaxScript {
		if got := r.Begin(balance); got != n {
			t.Fatalf("Begin: %d; want %d", got, n)
		}
	}
	for range 3 {
		if n := r.Begin(openAnn); n != -1 {
			t.Errorf("Begin: %d; want -1", n)
		}
	}
	if r.Told(api.MaxScript, none) || !r.Told(api.MaxScript-1, none) || !r.Told(0, none) {
		t.Error("Told")
	}
	l := r.Calls()
	if len(l) != api.MaxScript || l[api.MaxScript-1].End != api.MaxScript+1 || l[0].End != api.MaxScript+2 {
		t.Errorf("%d calls, the last one %+v, the first one %+v", len(l), l[len(l)-1], l[0])
	}
}

// P21.2: whatever comes, a record is what a plain list of all that came is.
func TestRecordModel(t *testing.T) {
	for seed := range int64(100) {
		r := rand.New(rand.NewSource(seed))
		record, time := New(), 0
		var want []Call
		for range 60 {
			n := r.Intn(40) - 2
			switch {
			case r.Intn(2) == 0:
				time++
				o := anyOp(r)
				want = append(want, Call{Op: o, Begin: time})
				if got := record.Begin(o); got != len(want)-1 {
					t.Fatalf("Begin: %d; want %d", got, len(want)-1)
				}
			case n >= 0 && n < len(want) && !want[n].Told:
				time++
				want[n].Told, want[n].End = true, time
				want[n].Reply = api.Reply{Why: api.Errno(r.Intn(60) - 5), Amount: r.Int63(), Rows: []api.Row{{Name: "x", Amount: -1}}}
				if !record.Told(n, want[n].Reply) {
					t.Fatalf("Told(%d) of %+v", n, want)
				}
			default:
				if record.Told(n, api.Reply{}) {
					t.Fatalf("Told(%d) of %+v", n, want)
				}
			}
			wantCalls(t, record, want...)
		}
	}
}

// Rules 4 and 5: nothing that is handed in, or answered, shares memory with what is kept.
func TestRecordIsItsOwn(t *testing.T) {
	r := New()
	r.Begin(api.Op{Kind: api.Audit})
	rows := []api.Row{{Name: "ann", Amount: 5}}
	r.Told(0, api.Reply{Rows: rows})
	rows[0].Name = "spoilt"
	want := told(api.Op{Kind: api.Audit}, 1, 2, api.Reply{Rows: []api.Row{{Name: "ann", Amount: 5}}})
	l := r.Calls()
	wantCalls(t, r, want)
	l[0].Reply.Rows[0].Amount = 6
	l[0].Reply.Rows = append(l[0].Reply.Rows, api.Row{})
	l[0].Begin = 7
	wantCalls(t, r, want)
	a, b := r.Calls(), r.Calls()
	a[0].Reply.Rows[0].Name = "spoilt"
	if b[0].Reply.Rows[0].Name != "ann" {
		t.Error("two answers share memory")
	}
}
