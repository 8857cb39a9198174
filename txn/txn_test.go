package txn

import (
	"fmt"
	"math"
	"slices"
	"testing"

	"almoner/api"
	"almoner/shard"
)

// wantAsks asks that these asks are gone through, and no other ones.
func wantAsks(t *testing.T, me, shards int, l []shard.Txn, want ...Ask) {
	t.Helper()
	if got := slices.Collect(Asks(me, shards, l)); !slices.EqualFunc(got, want, sameAsk) {
		t.Errorf("Asks(%d, %d, %+v): %+v; want %+v", me, shards, l, got, want)
	}
}

// P15.1, P15.2: the chapter's example.
func TestExample(t *testing.T) {
	l := []shard.Txn{{Id: "ann/k/1.1", From: "ann", Key: "k", To: "bob", N: 5}}
	asks := slices.Collect(Asks(1, 3, l))
	want := []Ask{{2, prepare("ann/k/1.1", "bob", 5)}, {3, prepare("ann/k/1.1", "bob", 5)}}
	if !slices.EqualFunc(asks, want, sameAsk) {
		t.Fatalf("Asks %+v; want %+v", asks, want)
	}
	if c, is := Next(asks[0], shard.Result{Why: api.ErrState}); is {
		t.Errorf("Next of ErrState: %+v", c)
	}
	if c, is := Next(asks[1], shard.Result{}); !is || !sameCmd(c, decide("ann/k/1.1", api.OK)) {
		t.Errorf("Next of OK: %+v, %v", c, is)
	}
}

// P15.1: transfer by transfer, shard by shard, whoever asks.
func TestAsks(t *testing.T) {
	l := []shard.Txn{
		{Id: "y/k/1.7", From: "y", Key: "k", To: "bob", N: 5},
		{Id: "x/k/1.2", From: "x", Key: "k", To: "dora", N: math.MaxInt64, Done: true},
		{Id: "y/k/1.7", From: "y", Key: "k", To: "bob", N: 5},
	}
	of := func(group int) []Ask {
		return []Ask{{group, prepare("y/k/1.7", "bob", 5)}, {group, finish("x/k/1.2", "dora", api.OK)}, {group, prepare("y/k/1.7", "bob", 5)}}
	}
	between := func(groups ...int) []Ask {
		var all []Ask
		for i := range l {
			for _, g := range groups {
				all = append(all, of(g)[i])
			}
		}
		return all
	}
	wantAsks(t, 1, 3, l, between(2, 3)...)
	wantAsks(t, 2, 3, l, between(1, 3)...)
	wantAsks(t, 3, 3, l, between(1, 2)...)
	wantAsks(t, 1, 2, l, between(2)...)
	wantAsks(t, 2, 2, l, between(1)...)
	wantAsks(t, 1, 1, l)
	// Whoever is none of the shards asks them all.
	for _, me := range []int{0, 4, -1, math.MinInt, math.MaxInt} {
		wantAsks(t, me, 3, l, between(1, 2, 3)...)
	}
	wantAsks(t, 2, 1, l, between(1)...)
}

// P15.1, P1: numbers of shards that there can not be, and no transfers.
func TestAsksOfNone(t *testing.T) {
	l := []shard.Txn{{Id: "ann/k/1.1", From: "ann", Key: "k", To: "bob", N: 5}, {}}
	for _, shards := range []int{0, -1, 4, 5, 16, math.MinInt, math.MaxInt} {
		for _, me := range []int{0, 1, 3, 4, shards} {
			wantAsks(t, me, shards, l)
		}
	}
	wantAsks(t, 1, 3, nil)
	wantAsks(t, 1, 3, []shard.Txn{})
}

// P15.1: what is told of a transfer that is decided is the lesser: that it is to be done, or not.
func TestAsksOfDone(t *testing.T) {
	for why, lesser := range map[api.Errno]api.Errno{
		api.OK: api.OK, api.ErrNone: api.ErrRetry, api.ErrOver: api.ErrRetry, api.ErrRetry: api.ErrRetry,
		api.ErrState: api.ErrRetry, api.ErrArg: api.ErrRetry, -1: api.ErrRetry, math.MaxInt: api.ErrRetry, math.MinInt: api.ErrRetry,
	} {
		x := shard.Txn{Id: "i", From: "f", Key: "k", To: "t", N: 7, Done: true, Why: why}
		wantAsks(t, 3, 2, []shard.Txn{x}, Ask{1, finish("i", "t", lesser)}, Ask{2, finish("i", "t", lesser)})
		// Of one that is not Done, Why plays no part.
		x.Done = false
		wantAsks(t, 2, 2, []shard.Txn{x}, Ask{1, prepare("i", "t", 7)})
	}
}

// P15.1, P1: transfers that can not be are asked for as they stand.
func TestAsksOfAnything(t *testing.T) {
	for _, x := range []shard.Txn{{}, {Id: "\xff\x00", To: "A b", N: math.MinInt64}, {N: -1, From: "f", Key: "k"}} {
		wantAsks(t, 1, 2, []shard.Txn{x}, Ask{2, prepare(x.Id, x.To, x.N)})
		x.Done = true
		wantAsks(t, 1, 2, []shard.Txn{x}, Ask{2, finish(x.Id, x.To, api.OK)})
	}
}

// P15.1: whoever goes through the asks may leave anywhere, and go through them again.
func TestAsksLeft(t *testing.T) {
	l := []shard.Txn{{Id: "a", To: "x", N: 1}, {Id: "b", To: "y", N: 2}, {Id: "c", To: "z", N: 3, Done: true}}
	seq := Asks(2, 3, l)
	all := slices.Collect(seq)
	if len(all) != 6 {
		t.Fatalf("%d asks", len(all))
	}
	for most := range len(all) + 2 {
		var got []Ask
		for a := range seq {
			if len(got) == most {
				break
			}
			got = append(got, a)
		}
		if want := all[:min(most, len(all))]; !slices.EqualFunc(got, want, sameAsk) {
			t.Errorf("the first %d: %+v; want %+v", most, got, want)
		}
	}
}

// P15.1: a list that is handed in is not kept, nor changed.
func TestAsksKeepNothing(t *testing.T) {
	l := []shard.Txn{{Id: "a", To: "x", N: 1}, {Id: "b", To: "y", N: 2}}
	was := slices.Clone(l)
	seq := Asks(1, 2, l)
	for range seq {
	}
	if !slices.Equal(l, was) {
		t.Errorf("the list was changed: %+v", l)
	}
	l[0], l[1].Done = shard.Txn{Id: "c"}, true
	if got, want := slices.Collect(seq), []Ask{{2, prepare("a", "x", 1)}, {2, prepare("b", "y", 2)}}; !slices.EqualFunc(got, want, sameAsk) {
		t.Errorf("the list was kept: %+v; want %+v", got, want)
	}
}

// whys is answers' errors, those that a chapter names and others.
func whys() []api.Errno {
	return []api.Errno{
		api.OK, api.ErrArg, api.ErrNil, api.ErrSize, api.ErrFull, api.ErrState, api.ErrShort, api.ErrForm, api.ErrSum, api.ErrSync, api.ErrDead,
		api.ErrNone, api.ErrTwice, api.ErrFunds, api.ErrOver, api.ErrSelf, api.ErrKey, api.ErrName, api.ErrAmount, api.ErrRetry,
		-1, 6, 51, math.MaxInt, math.MinInt,
	}
}

// P15.2, P1: what follows an answer, whatever was asked and is answered.
func TestNext(t *testing.T) {
	kinds := []int{math.MinInt, -1, 0, 11, math.MaxInt}
	for kind := shard.CmdOp; kind <= shard.CmdDrop; kind++ {
		kinds = append(kinds, kind)
	}
	for _, kind := range kinds {
		for _, why := range whys() {
			a := Ask{2, shard.Cmd{
				Kind: kind, Op: open("ann", "o"), Id: "i", Name: "bob", N: 5, Why: api.ErrNone, Slot: 3, Epoch: 4, At: 6, Last: true, Data: []byte("d"),
			}}
			r := shard.Result{Why: why, Wait: true, Reply: api.Reply{Why: api.ErrFunds, Amount: 7, Rows: []api.Row{{Name: "n"}}}, Data: []byte("e")}
			var want shard.Cmd
			wantIs := false
			switch fmt.Sprint(kind, " ", why) {
			case "2 1", "2 2", "2 5":
			case "4 0":
				want, wantIs = end("i"), true
			default:
				if kind == shard.CmdPrepare {
					want, wantIs = decide("i", why), true
				}
			}
			if c, is := Next(a, r); is != wantIs || !sameCmd(c, want) {
				t.Errorf("Next of the kind %d, answered %d: %+v, %v; want %+v, %v", kind, why, c, is, want, wantIs)
			}
		}
	}
}
