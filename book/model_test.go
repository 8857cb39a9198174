package book

import (
	"fmt"
	"math"
	"math/big"
	"math/rand"
	"testing"

	"almoner/api"
)

// sum is what all accounts have together.
func sum(rows []api.Row) *big.Int {
	all := new(big.Int)
	for _, r := range rows {
		all.Add(all, big.NewInt(r.Amount))
	}
	return all
}

// change is what an account is to be asked, and what is to be answered, of accounts that are there.
func (p plain) change(name string, do func(h held) (held, api.Errno)) api.Errno {
	h, is := p[name]
	if !is {
		return api.ErrNone
	}
	h, why := do(h)
	if why == api.OK {
		p[name] = h
	}
	return why
}

func (p plain) add(name string, n int64) api.Errno {
	return p.change(name, func(h held) (held, api.Errno) {
		after := new(big.Int).Add(big.NewInt(h.amount), big.NewInt(n))
		switch {
		case n < 1:
			return h, api.ErrAmount
		case !after.IsInt64():
			return h, api.ErrOver
		}
		return held{after.Int64(), h.by}, api.OK
	})
}

func (p plain) take(name string, n int64) api.Errno {
	return p.change(name, func(h held) (held, api.Errno) {
		switch {
		case n < 1:
			return h, api.ErrAmount
		case n > h.amount:
			return h, api.ErrFunds
		}
		return held{h.amount - n, h.by}, api.OK
	})
}

func (p plain) hold(name, by string) api.Errno {
	return p.change(name, func(h held) (held, api.Errno) {
		switch {
		case by == "":
			return h, api.ErrArg
		case h.by == "" || h.by == by:
			return held{h.amount, by}, api.OK
		}
		return h, api.ErrState
	})
}

func (p plain) free(name, by string) api.Errno {
	return p.change(name, func(h held) (held, api.Errno) {
		if h.by == "" || h.by != by {
			return h, api.ErrState
		}
		return held{amount: h.amount}, api.OK
	})
}

func (p plain) put(name string, n int64) api.Errno {
	_, is := p[name]
	switch {
	case name == "No":
		return api.ErrName
	case n < 0:
		return api.ErrAmount
	case is:
		return api.ErrTwice
	case len(p) == 200:
		return api.ErrFull
	}
	p[name] = held{amount: n}
	return api.OK
}

func (p plain) drop(slot int) int {
	count := 0
	for name := range p {
		if slotOf(name) == slot {
			count++
			delete(p, name)
		}
	}
	return count
}

// amounts is amounts about the edges.
func amounts() []int64 {
	return []int64{math.MinInt64, -1, 0, 1, 2, 3, 5, 8, 1000, math.MaxInt64 / 2, math.MaxInt64 - 1, math.MaxInt64}
}

// P11.2-P11.6: scripts, held against a plain map; what all accounts have together is what came less what went, and refused calls change nothing.
func TestScripts(t *testing.T) {
	answers := map[api.Errno]int{}
	for seed := range int64(120) {
		r := rand.New(rand.NewSource(seed))
		b, p := New(), plain{}
		came := new(big.Int)
		of := 1 + r.Intn(12)
		if seed%6 == 0 {
			of = 300
		}
		for i := range 400 {
			name := fmt.Sprintf("n%d", r.Intn(of))
			if r.Intn(30) == 0 {
				name = "No"
			}
			by := []string{"", "x", "y"}[r.Intn(3)]
			n := amounts()[r.Intn(len(amounts()))]
			was := sum(b.Rows(-1))
			var why, want api.Errno
			switch x := r.Intn(20); {
			case x < 7:
				why, want = b.Open(name), p.put(name, 0)
			case x < 9:
				if why, want = b.Put(api.Row{Name: name, Amount: n}), p.put(name, n); why == api.OK {
					came.Add(came, big.NewInt(n))
				}
			case x < 12:
				if why, want = b.Add(name, n), p.add(name, n); why == api.OK {
					came.Add(came, big.NewInt(n))
				}
			case x < 14:
				if why, want = b.Take(name, n), p.take(name, n); why == api.OK {
					came.Sub(came, big.NewInt(n))
				}
			case x < 16:
				why, want = b.Hold(name, by), p.hold(name, by)
			case x < 18:
				why, want = b.Free(name, by), p.free(name, by)
			case x == 18:
				slot := r.Intn(20) - 2
				gone := sum(b.Rows(slot))
				if slot == -1 {
					gone.SetInt64(0)
				}
				if got, count := b.Drop(slot), p.drop(slot); got != count {
					t.Fatalf("Drop(%d): %d, want %d", slot, got, count)
				}
				came.Sub(came, gone)
			default:
				b = b.Copy()
			}
			answers[why]++
			if why != want {
				t.Fatalf("seed %d, call %d: %d, want %d", seed, i, why, want)
			}
			if got := sum(b.Rows(-1)); got.Cmp(came) != 0 {
				t.Fatalf("all have %v, and %v came; they had %v", got, came, was)
			}
			if i%8 == 0 || i > 390 {
				wantPlain(t, b, p)
			}
		}
	}
	for _, why := range []api.Errno{api.OK, api.ErrName, api.ErrAmount, api.ErrTwice, api.ErrNone, api.ErrOver, api.ErrFunds, api.ErrArg, api.ErrState} {
		if answers[why] < 20 {
			t.Errorf("%d was answered %d times", why, answers[why])
		}
	}
}
