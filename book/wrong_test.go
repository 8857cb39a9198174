package book

import (
	"math"
	"strings"
	"testing"

	"almoner/api"
)

// P11.1: a name is 1 to 24 bytes, each a small letter, a digit or _.
func TestName(t *testing.T) {
	const right = "abcdefghijklmnopqrstuvwxyz0123456789_"
	for c := range 256 {
		is := strings.IndexByte(right, byte(c)) >= 0
		one := string([]byte{byte(c)})
		for _, s := range []string{one, "a" + one, one + "a", "a" + one + "a", one + strings.Repeat("z", 23), strings.Repeat("z", 23) + one} {
			if Name(s) != is {
				t.Errorf("Name(%q): %v", s, !is)
			}
		}
	}
	for _, n := range []int{0, 1, 2, 23, 24, 25, 26, 65536, 100000} {
		if is := n >= 1 && n <= 24; Name(strings.Repeat("a", n)) != is {
			t.Errorf("Name of %d bytes: %v", n, !is)
		}
	}
	for _, s := range []string{"", " ", "ä", "a\x00", "\xff", "a b", "Ann", "a-b", "a/b", "\xe2\x80\xa8", "１"} {
		if Name(s) {
			t.Errorf("Name(%q)", s)
		}
	}
}

// P11.1: what is wrong of operations, by the error that is named first.
func TestWrong(t *testing.T) {
	name, long := strings.Repeat("n", 24), strings.Repeat("n", 25)
	for _, c := range []struct {
		o    api.Op
		want api.Errno
	}{
		{api.Op{}, api.ErrArg},
		{api.Op{Kind: -1, From: "a", Key: "k", Amount: 1}, api.ErrArg},
		{api.Op{Kind: 8, From: "a", Key: "k", Amount: 1, Slot: 1, Shard: 1}, api.ErrArg},
		{api.Op{Kind: 8, From: "A", Key: "K", To: "T", Amount: -1}, api.ErrArg},
		{api.Op{Kind: math.MinInt}, api.ErrArg},
		{api.Op{Kind: math.MaxInt}, api.ErrArg},

		{api.Op{Kind: api.Open, From: "a", Key: "k"}, api.OK},
		{api.Op{Kind: api.Open, From: name, Key: name}, api.OK},
		{api.Op{Kind: api.Open, From: long, Key: "k"}, api.ErrName},
		{api.Op{Kind: api.Open, From: "a", Key: long}, api.ErrName},
		{api.Op{Kind: api.Open, Key: "k"}, api.ErrName},
		{api.Op{Kind: api.Open, From: "a"}, api.ErrName},
		{api.Op{Kind: api.Open, From: "a", Key: "K"}, api.ErrName},

		{api.Op{Kind: api.Deposit, From: "a", Key: "k", Amount: 1}, api.OK},
		{api.Op{Kind: api.Deposit, From: "a", Key: "k", Amount: math.MaxInt64}, api.OK},
		{api.Op{Kind: api.Deposit, From: "a", Key: "k"}, api.ErrAmount},
		{api.Op{Kind: api.Deposit, From: "a", Key: "k", Amount: -1}, api.ErrAmount},
		{api.Op{Kind: api.Deposit, From: "a", Key: "k", Amount: math.MinInt64}, api.ErrAmount},
		{api.Op{Kind: api.Deposit, From: "a", Amount: 0}, api.ErrName},
		{api.Op{Kind: api.Deposit, Key: "k", Amount: 0}, api.ErrName},
		{api.Op{Kind: api.Deposit, From: "a", To: "a", Key: "k", Amount: 1}, api.OK},

		{api.Op{Kind: api.Withdraw, From: "a", Key: "k", Amount: 1}, api.OK},
		{api.Op{Kind: api.Withdraw, From: "a", Key: "k"}, api.ErrAmount},
		{api.Op{Kind: api.Withdraw, From: "a", Key: "k", Amount: -5}, api.ErrAmount},
		{api.Op{Kind: api.Withdraw, From: "a", Key: "k k", Amount: 1}, api.ErrName},
		{api.Op{Kind: api.Withdraw, From: "a", To: "a", Key: "k", Amount: 1}, api.OK},

		{api.Op{Kind: api.Transfer, From: "a", To: "b", Key: "k", Amount: 1}, api.OK},
		{api.Op{Kind: api.Transfer, From: "a", To: "b", Key: "k", Amount: math.MaxInt64}, api.OK},
		{api.Op{Kind: api.Transfer, From: "a", To: name, Key: "k", Amount: 1}, api.OK},
		{api.Op{Kind: api.Transfer, From: "a", To: long, Key: "k", Amount: 1}, api.ErrName},
		{api.Op{Kind: api.Transfer, From: "a", Key: "k", Amount: 0}, api.ErrName},
		{api.Op{Kind: api.Transfer, From: "A", To: "A", Key: "k", Amount: 1}, api.ErrName},
		{api.Op{Kind: api.Transfer, From: "a", To: "a", Amount: 1}, api.ErrName},
		{api.Op{Kind: api.Transfer, From: "a", To: "b", Key: "k"}, api.ErrAmount},
		{api.Op{Kind: api.Transfer, From: "a", To: "a", Key: "k"}, api.ErrAmount},
		{api.Op{Kind: api.Transfer, From: "a", To: "a", Key: "k", Amount: 1}, api.ErrSelf},

		{api.Op{Kind: api.Balance, From: "a"}, api.OK},
		{api.Op{Kind: api.Balance, From: "a", To: "a", Key: "K", Amount: -1, Slot: -1}, api.OK},
		{api.Op{Kind: api.Balance, From: long}, api.ErrName},
		{api.Op{Kind: api.Balance}, api.ErrName},

		{api.Op{Kind: api.Audit}, api.OK},
		{api.Op{Kind: api.Audit, From: "A", To: "A", Key: "K", Amount: -1, Slot: 99, Shard: 99}, api.OK},

		{api.Op{Kind: api.Move, Slot: 0, Shard: 1}, api.OK},
		{api.Op{Kind: api.Move, Slot: 15, Shard: 3, From: "A", Amount: -1}, api.OK},
		{api.Op{Kind: api.Move, Slot: -1, Shard: 1}, api.ErrArg},
		{api.Op{Kind: api.Move, Slot: 16, Shard: 1}, api.ErrArg},
		{api.Op{Kind: api.Move, Slot: 3, Shard: 0}, api.ErrArg},
		{api.Op{Kind: api.Move, Slot: 3, Shard: 4}, api.ErrArg},
		{api.Op{Kind: api.Move, Slot: 3, Shard: -1, From: "A"}, api.ErrArg},
		{api.Op{Kind: api.Move, Slot: math.MinInt, Shard: math.MaxInt}, api.ErrArg},
	} {
		if why := Wrong(c.o); why != c.want {
			t.Errorf("Wrong(%+v): %d, want %d", c.o, why, c.want)
		}
	}
}

// plays tells which parts of an operation play a part in one of its kind: From, Key, To, Amount, Slot and Shard.
func plays(kind int) [5]bool {
	return map[int][5]bool{
		api.Open:     {true, true},
		api.Deposit:  {true, true, false, true},
		api.Withdraw: {true, true, false, true},
		api.Transfer: {true, true, true, true},
		api.Balance:  {true},
		api.Move:     {4: true},
	}[kind]
}

// firstWrong is what the chapter's list says of an operation, of which each part is right or wrong.
func firstWrong(kind int, wrong [5]bool) api.Errno {
	for part, why := range [5]api.Errno{api.ErrName, api.ErrName, api.ErrName, api.ErrAmount, api.ErrArg} {
		if plays(kind)[part] && wrong[part] {
			return why
		}
	}
	return api.OK
}

// P11.1, P1: of every kind, with each of its parts right or wrong: the error that is named first, and of what is not of the kind none.
func TestWrongParts(t *testing.T) {
	for kind := api.Open; kind <= api.Move; kind++ {
		for bits := range 32 {
			var wrong [5]bool
			for part := range wrong {
				wrong[part] = bits>>part&1 == 1
			}
			o := api.Op{Kind: kind, From: "ann", Key: "k", To: "bob", Amount: 1, Slot: 0, Shard: 1}
			for part, spoil := range []func(){
				func() { o.From = "" },
				func() { o.Key = "no name" },
				func() { o.To = "Bob" },
				func() { o.Amount = 0 },
				func() { o.Slot = 16 },
			} {
				if wrong[part] {
					spoil()
				}
			}
			if why, want := Wrong(o), firstWrong(kind, wrong); why != want {
				t.Errorf("Wrong(%+v): %d, want %d", o, why, want)
			}
		}
	}
}
