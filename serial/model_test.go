package serial

import (
	"fmt"
	"maps"
	"math"
	"math/big"
	"math/rand"
	"slices"
	"testing"

	"almoner/api"
)

// plain is a ledger as plain maps: what is kept stands by From/Key, with the operation as a text.
type plain struct {
	has  map[string]int64
	op   map[string]string
	why  map[string]api.Errno
	came *big.Int // by Deposit, less what went by Withdraw
}

func newPlain() *plain {
	return &plain{map[string]int64{}, map[string]string{}, map[string]api.Errno{}, new(big.Int)}
}

// do is what is to be answered to a right operation.
func (p *plain) do(o api.Op) api.Reply {
	has, is := p.has[o.From]
	switch {
	case o.Kind == api.Move:
		return api.Reply{}
	case o.Kind == api.Audit:
		var r api.Reply
		for _, name := range slices.Sorted(maps.Keys(p.has)) {
			r.Rows = append(r.Rows, api.Row{Name: name, Amount: p.has[name]})
		}
		return r
	case o.Kind == api.Balance && !is:
		return api.Reply{Why: api.ErrNone}
	case o.Kind == api.Balance:
		return api.Reply{Amount: has}
	}
	op := fmt.Sprint(o.Kind)
	if o.Kind != api.Open {
		op += fmt.Sprint(" ", o.Amount)
	}
	if o.Kind == api.Transfer {
		op += " " + o.To
	}
	key := o.From + "/" + o.Key
	if was, is := p.op[key]; is {
		if was != op {
			return api.Reply{Why: api.ErrKey}
		}
		return api.Reply{Why: p.why[key]}
	}
	p.op[key], p.why[key] = op, p.first(o)
	return api.Reply{Why: p.why[key]}
}

// first is what is to be answered to an operation with a new key.
func (p *plain) first(o api.Op) api.Errno {
	has, is := p.has[o.From]
	to, isTo := p.has[o.To]
	n := o.Amount
	switch {
	case o.Kind == api.Open && is:
		return api.ErrTwice
	case o.Kind == api.Open:
		p.has[o.From] = 0
		return api.OK
	case !is:
		return api.ErrNone
	case o.Kind == api.Deposit && math.MaxInt64-has < n:
		return api.ErrOver
	case o.Kind == api.Deposit:
		p.has[o.From] += n
		p.came.Add(p.came, big.NewInt(n))
		return api.OK
	case has < n:
		return api.ErrFunds
	case o.Kind == api.Withdraw:
		p.has[o.From] -= n
		p.came.Sub(p.came, big.NewInt(n))
		return api.OK
	case !isTo:
		return api.ErrNone
	case math.MaxInt64-to < n:
		return api.ErrOver
	}
	p.has[o.From] -= n
	p.has[o.To] += n
	return api.OK
}

// text is the ledger as it is to be told.
func (p *plain) text() string {
	text := ""
	for _, name := range slices.Sorted(maps.Keys(p.has)) {
		text += fmt.Sprintf("%s=%d ", name, p.has[name])
	}
	// A / is below all bytes of names, so that the order of From/Key is the one of From, then Key.
	for _, key := range slices.Sorted(maps.Keys(p.why)) {
		text += fmt.Sprintf("%s:%d ", key, p.why[key])
	}
	return text
}

// someOp is a right operation on a few accounts, with a few keys.
func someOp(r *rand.Rand, names, keys int) api.Op {
	name := func() string { return fmt.Sprintf("n%d", r.Intn(names)) }
	amounts := []int64{1, 2, 3, 5, 8, math.MaxInt64 / 2, math.MaxInt64 - 1, math.MaxInt64}
	o := api.Op{
		Kind:   []int{1, 1, 2, 2, 2, 3, 3, 4, 4, 4, 5, 6, 7}[r.Intn(13)],
		From:   name(),
		To:     name(),
		Key:    fmt.Sprintf("k%d", r.Intn(keys)),
		Amount: amounts[r.Intn(len(amounts))],
		Slot:   r.Intn(16),
		Shard:  1 + r.Intn(3),
	}
	if r.Intn(3) > 0 {
		o.Amount = 1 + r.Int63n(9)
	}
	for o.Kind == api.Transfer && o.To == o.From {
		o.To = name()
	}
	return o
}

// wantSum asks that a ledger's sum is what came less what went.
func wantSum(t *testing.T, l *Ledger, p *plain) {
	t.Helper()
	got, why := l.Sum()
	want, wantWhy := int64(0), api.ErrOver
	if p.came.IsInt64() {
		want, wantWhy = p.came.Int64(), api.OK
	}
	if got != want || why != wantWhy {
		t.Fatalf("Sum: %d, %d; want %d, %d", got, why, want, wantWhy)
	}
}

// P12.1, P12.2, P12.4-P12.6, P3, P4, P5: scripts, held against plain maps: every answer is right and fits; the sum is what came less what went, each key once; done again, an operation answers as it did, and changes nothing; a refused one changes no account.
func TestScripts(t *testing.T) {
	answers := map[api.Errno]int{}
	over := 0
	for seed := range int64(80) {
		r := rand.New(rand.NewSource(seed))
		l, p := New(), newPlain()
		names, keys := 2+r.Intn(6), 2+r.Intn(60)
		for range 250 {
			o := someOp(r, names, keys)
			was := rows(l)
			got, want := l.Do(o), p.do(o)
			if !same(got, want) || !Fits(o, got) {
				t.Fatalf("seed %d: Do %+v: %+v, want %+v", seed, o, got, want)
			}
			answers[got.Why]++
			if got.Why != api.OK && rows(l) != was {
				t.Fatalf("%+v was refused with %d: %s, and was %s", o, got.Why, rows(l), was)
			}
			text := p.text()
			wantText(t, l, text)
			wantSum(t, l, p)
			if again := l.Do(o); !same(again, got) || l.Text() != text {
				t.Fatalf("%+v again: %+v, and was %+v", o, again, got)
			}
			if r.Intn(20) == 0 {
				l = l.Copy()
			}
		}
		if !p.came.IsInt64() {
			over++
		}
	}
	for _, why := range []api.Errno{api.OK, api.ErrNone, api.ErrTwice, api.ErrFunds, api.ErrOver, api.ErrKey} {
		if answers[why] < 100 {
			t.Errorf("%d was answered %d times", why, answers[why])
		}
	}
	if over < 10 {
		t.Errorf("%d sums were too great", over)
	}
}

// touches is the accounts of an operation; those of an Audit are all.
func touches(o api.Op) []string {
	switch o.Kind {
	case api.Move:
		return nil
	case api.Transfer:
		return []string{o.From, o.To}
	}
	return []string{o.From}
}

// P12.7: operations on other accounts and other keys may change places.
func TestChangePlaces(t *testing.T) {
	changed := 0
	for seed := range int64(4000) {
		r := rand.New(rand.NewSource(seed))
		l := New()
		for range r.Intn(40) {
			l.Do(someOp(r, 5, 30))
		}
		a, b := someOp(r, 5, 30), someOp(r, 5, 30)
		if a.Kind == api.Audit || b.Kind == api.Audit || slices.ContainsFunc(touches(a), func(name string) bool { return slices.Contains(touches(b), name) }) {
			continue
		}
		changed++
		turned := l.Copy()
		first, second := l.Do(a), l.Do(b)
		if last := turned.Do(b); !same(last, second) {
			t.Fatalf("%+v ahead of %+v: %+v, and behind it %+v", b, a, last, second)
		}
		if last := turned.Do(a); !same(last, first) {
			t.Fatalf("%+v behind %+v: %+v, and ahead of it %+v", a, b, last, first)
		}
		if !l.Same(turned) || l.Text() != turned.Text() {
			t.Fatalf("%+v and %+v: %s, and turned %s", a, b, l.Text(), turned.Text())
		}
	}
	if changed < 1000 {
		t.Errorf("%d changed places", changed)
	}
}

// P1, P12.6: whatever operation is asked, it is answered, the answer fits, and a wrong one changes nothing.
func TestAnyOps(t *testing.T) {
	texts := []string{"", "ann", "bob", "Ann", "a b", "\x00", "\xff", string(make([]byte, 70000)), "nnnnnnnnnnnnnnnnnnnnnnnn", "nnnnnnnnnnnnnnnnnnnnnnnnn"}
	numbers := []int{math.MinInt, -1, 0, 1, 2, 3, 4, 15, 16, math.MaxInt}
	r := rand.New(rand.NewSource(1))
	l := done(open("ann", "ann"), deposit("ann", 5, "bob"))
	for range 20000 {
		some := func() int { return numbers[r.Intn(len(numbers))] }
		o := api.Op{
			Kind:   r.Intn(10) - 1,
			From:   texts[r.Intn(len(texts))],
			To:     texts[r.Intn(len(texts))],
			Key:    texts[r.Intn(len(texts))],
			Amount: int64(some()),
			Slot:   some(),
			Shard:  some(),
		}
		was := l.Text()
		got := l.Do(o)
		if !Fits(o, got) || Fits(o, api.Reply{Why: api.ErrRetry}) || Fits(o, api.Reply{Why: api.ErrNil}) {
			t.Fatalf("Do %+v: %+v", o, got)
		}
		switch got.Why {
		case api.ErrArg, api.ErrName, api.ErrAmount, api.ErrSelf, api.ErrKey:
			wantText(t, l, was)
		}
	}
}
