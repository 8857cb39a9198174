package history

import (
	"fmt"
	"math/rand"
	"reflect"
	"slices"
	"testing"

	"almoner/api"
	"almoner/serial"
)

var (
	openAnn = api.Op{Kind: api.Open, From: "ann", Key: "o"}
	balance = api.Op{Kind: api.Balance, From: "ann"}
	none    = api.Reply{Why: api.ErrNone}
	retry   = api.Reply{Why: api.ErrRetry}
)

// told is a call that was told.
func told(o api.Op, begin, end int, r api.Reply) Call {
	return Call{Op: o, Begin: begin, End: end, Told: true, Reply: r}
}

// open is a call that was not told.
func open(o api.Op, begin int) Call {
	return Call{Op: o, Begin: begin}
}

// wantOrder asks for an order, and that Linear says the same.
func wantOrder(t *testing.T, l []Call, want []int, is bool, why api.Errno) {
	t.Helper()
	got, ok, e := Order(l)
	if !slices.Equal(got, want) || ok != is || e != why {
		t.Errorf("Order of %+v: %v, %v, %d; want %v, %v, %d", l, got, ok, e, want, is, why)
	}
	if ok, e := Linear(l); ok != is || e != why {
		t.Errorf("Linear of %+v: %v, %d; want %v, %d", l, ok, e, is, why)
	}
}

// sameReply holds two answers against each other; no rows are no rows.
func sameReply(a, b api.Reply) bool {
	if len(a.Rows) == 0 && len(b.Rows) == 0 {
		a.Rows, b.Rows = nil, nil
	}
	return reflect.DeepEqual(a, b)
}

// isOrder tells whether numbers are an order of calls, word by word as the page has it.
func isOrder(l []Call, order []int) bool {
	in := map[int]int{}
	for at, n := range order {
		if _, is := in[n]; is || n < 0 || n >= len(l) || l[n].Told && l[n].Reply.Why == api.ErrRetry {
			return false
		}
		in[n] = at
	}
	for n, c := range l {
		if _, is := in[n]; !is && c.Told && c.Reply.Why != api.ErrRetry {
			return false
		}
	}
	if len(order) > 0 && !l[order[len(order)-1]].Told {
		return false
	}
	ledger := serial.New()
	for at, n := range order {
		for _, ahead := range order[:at] {
			if l[n].Told && l[n].End < l[ahead].Begin {
				return false
			}
		}
		if r := ledger.Do(l[n].Op); l[n].Told && !sameReply(r, l[n].Reply) {
			return false
		}
	}
	return true
}

// firstOrder is the first of all orders: all lists of numbers are tried, the lesser ones first.
func firstOrder(l []Call, begin []int) ([]int, bool) {
	if isOrder(l, begin) {
		return begin, true
	}
	for n := range l {
		if slices.Contains(begin, n) {
			continue
		}
		if order, is := firstOrder(l, append(slices.Clone(begin), n)); is {
			return order, true
		}
	}
	return nil, false
}

// anyOp is an operation on few accounts, of few keys; now and then a wrong one.
func anyOp(r *rand.Rand) api.Op {
	names := []string{"ann", "bob"}
	o := api.Op{Kind: 1 + r.Intn(7), From: names[r.Intn(2)], Key: fmt.Sprint("k", r.Intn(3)), Amount: 1 + r.Int63n(3), Slot: r.Intn(16), Shard: 1 + r.Intn(3)}
	o.To = names[r.Intn(2)]
	switch r.Intn(20) {
	case 0:
		o.Kind = []int{-1, 0, 8}[r.Intn(3)]
	case 1:
		o.From = "Ann"
	case 2:
		o.Amount = -r.Int63n(2)
	}
	return o
}

// anyCalls is calls of which each was done at some time between its begin and its end; some were not told, some were told ErrRetry and not done. All times are different ones.
func anyCalls(r *rand.Rand, count int) []Call {
	type happening struct{ call, what int }
	var script []happening
	for n := range count {
		for what := range 3 {
			script = append(script, happening{n, what})
		}
	}
	r.Shuffle(len(script), func(i, j int) { script[i], script[j] = script[j], script[i] })
	l := make([]Call, count)
	stage := make([]int, count)
	ledger := serial.New()
	for time, h := range script {
		c := &l[h.call]
		switch stage[h.call] { // whatever is left of a call is in order: begin, do, tell
		case 0:
			*c = Call{Op: anyOp(r), Begin: time}
			if r.Intn(8) == 0 {
				c.Reply, stage[h.call] = retry, 1
			}
		case 1:
			if c.Reply = ledger.Do(c.Op); r.Intn(6) == 0 {
				c.Reply, stage[h.call] = api.Reply{}, 7
			}
		case 2:
			c.Told, c.End = true, time
		}
		stage[h.call]++
	}
	for n := range l {
		if !l[n].Told {
			l[n].Reply = api.Reply{}
		}
	}
	return l
}

// spoilt is calls of which one is told something else, or at another time.
func spoilt(r *rand.Rand, l []Call) []Call {
	l = slices.Clone(l)
	if len(l) == 0 {
		return l
	}
	c := &l[r.Intn(len(l))]
	switch r.Intn(5) {
	case 0:
		c.Reply.Why = []api.Errno{api.OK, api.ErrNone, api.ErrTwice, api.ErrFunds, api.ErrKey, api.ErrRetry}[r.Intn(6)]
	case 1:
		c.Reply.Amount = r.Int63n(4)
	case 2:
		c.Reply.Rows = []api.Row{{Name: "ann", Amount: r.Int63n(3)}}
	case 3:
		c.Begin -= r.Intn(5)
	case 4:
		c.End += r.Intn(5)
	}
	return l
}
