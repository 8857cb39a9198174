package serial

import (
	"math"
	"slices"
	"testing"

	"almoner/api"
)

// right is a right operation of each kind.
func right() []api.Op {
	return []api.Op{
		open("ann", "k"), deposit("ann", 1, "k"), withdraw("ann", 1, "k"), transfer("ann", "bob", 1, "k"), balance("ann"), audit(), {Kind: api.Move, Shard: 1},
	}
}

// errors is all numbers of errors, and some that are none.
func errors() []api.Errno {
	l := []api.Errno{math.MinInt, -1, 99, math.MaxInt}
	for why := range api.Errno(60) {
		l = append(l, why)
	}
	return l
}

// P12.3: of a right operation just its errors fit, with nothing beside them.
func TestFitsErrors(t *testing.T) {
	can := map[int][]api.Errno{
		api.Open:     {api.OK, api.ErrTwice, api.ErrKey},
		api.Deposit:  {api.OK, api.ErrNone, api.ErrOver, api.ErrKey},
		api.Withdraw: {api.OK, api.ErrNone, api.ErrFunds, api.ErrKey},
		api.Transfer: {api.OK, api.ErrNone, api.ErrFunds, api.ErrOver, api.ErrKey},
		api.Balance:  {api.OK, api.ErrNone},
		api.Audit:    {api.OK},
		api.Move:     {api.OK},
	}
	for _, o := range right() {
		for _, why := range errors() {
			is := slices.Contains(can[o.Kind], why)
			if Fits(o, api.Reply{Why: why}) != is || Fits(o, api.Reply{Why: why, Rows: []api.Row{}}) != is {
				t.Errorf("Fits of the kind %d with %d: %v", o.Kind, why, !is)
			}
			for _, n := range []int64{math.MinInt64, -1, 1, math.MaxInt64} {
				is := o.Kind == api.Balance && why == api.OK && n >= 0
				if Fits(o, api.Reply{Why: why, Amount: n}) != is {
					t.Errorf("Fits of the kind %d with %d, Amount %d: %v", o.Kind, why, n, !is)
				}
				if Fits(o, api.Reply{Why: why, Amount: n, Rows: []api.Row{{Name: "ann"}}}) {
					t.Errorf("Fits of the kind %d with %d, Amount %d, a row", o.Kind, why, n)
				}
			}
			is = o.Kind == api.Audit && why == api.OK
			if Fits(o, api.Reply{Why: why, Rows: []api.Row{{Name: "ann", Amount: 1}}}) != is {
				t.Errorf("Fits of the kind %d with %d, a row: %v", o.Kind, why, !is)
			}
		}
	}
}

// P12.3: rows of an Audit rise by their names, and have amounts from 0 on.
func TestFitsRows(t *testing.T) {
	for _, c := range []struct {
		rows []api.Row
		want bool
	}{
		{nil, true},
		{[]api.Row{{Name: "ann"}}, true},
		{[]api.Row{{Name: "ann", Amount: math.MaxInt64}, {Name: "bob", Amount: math.MaxInt64}}, true},
		{[]api.Row{{Name: "_"}, {Name: "a"}, {Name: "a0"}, {Name: "a_"}, {Name: "aa"}, {Name: "b"}}, true},
		{[]api.Row{{Name: "ann"}, {Name: "ann"}}, false},
		{[]api.Row{{Name: "ann", Amount: 1}, {Name: "ann", Amount: 2}}, false},
		{[]api.Row{{Name: "bob"}, {Name: "ann"}}, false},
		{[]api.Row{{Name: "ann"}, {Name: "carl"}, {Name: "bob"}}, false},
		{[]api.Row{{Name: "ab"}, {Name: "a"}}, false},
		{[]api.Row{{Name: "ann", Amount: -1}}, false},
		{[]api.Row{{Name: "ann"}, {Name: "bob", Amount: math.MinInt64}}, false},
	} {
		was := slices.Clone(c.rows)
		if got := Fits(audit(), api.Reply{Rows: c.rows}); got != c.want || !slices.Equal(c.rows, was) {
			t.Errorf("Fits of %v: %v", c.rows, got)
		}
	}
}

// P12.3: of a wrong operation just that error fits, whatever stands beside it.
func TestFitsWrong(t *testing.T) {
	for _, c := range []struct {
		o    api.Op
		want api.Errno
	}{
		{api.Op{}, api.ErrArg},
		{api.Op{Kind: 8, From: "ann", Key: "k", Amount: 1}, api.ErrArg},
		{api.Op{Kind: math.MinInt}, api.ErrArg},
		{api.Op{Kind: api.Move}, api.ErrArg},
		{open("", "k"), api.ErrName},
		{balance("Ann"), api.ErrName},
		{transfer("ann", "", 1, "k"), api.ErrName},
		{deposit("ann", 0, "k"), api.ErrAmount},
		{withdraw("ann", -1, "k"), api.ErrAmount},
		{transfer("ann", "ann", 1, "k"), api.ErrSelf},
	} {
		for _, why := range errors() {
			for _, r := range []api.Reply{{Why: why}, {Why: why, Amount: 1}, {Why: why, Rows: []api.Row{{Name: "ann"}}}} {
				if got := Fits(c.o, r); got != (why == c.want) {
					t.Errorf("Fits of %+v with %+v: %v", c.o, r, got)
				}
			}
		}
	}
}
