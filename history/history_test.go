package history

import (
	"fmt"
	"math"
	"math/rand"
	"slices"
	"testing"

	"almoner/api"
)

// P21.1: the chapter's examples.
func TestExamples(t *testing.T) {
	wantOrder(t, []Call{told(openAnn, 1, 2, api.Reply{}), told(balance, 3, 4, api.Reply{})}, []int{0, 1}, true, api.OK)
	wantOrder(t, []Call{told(balance, 1, 4, none), told(openAnn, 2, 3, api.Reply{})}, []int{0, 1}, true, api.OK)
	wantOrder(t, []Call{told(openAnn, 1, 2, api.Reply{}), told(balance, 3, 4, none)}, nil, false, api.OK)
}

// P21.1: which orders can be, at the edges that the page names.
func TestOrders(t *testing.T) {
	ok := api.Reply{}
	deposit := func(n int64, key string) api.Op {
		return api.Op{Kind: api.Deposit, From: "ann", Amount: n, Key: key}
	}
	audit := api.Op{Kind: api.Audit}
	rows := func(n int64) api.Reply { return api.Reply{Rows: []api.Row{{Name: "ann", Amount: n}}} }
	for name, x := range map[string]struct {
		l    []Call
		want []int
		is   bool
	}{
		"no call":                                {nil, nil, true},
		"an empty list":                          {[]Call{}, nil, true},
		"of no call that was told the empty one": {[]Call{open(openAnn, 1), open(balance, 2)}, nil, true},
		"ErrRetry does not count":                {[]Call{told(openAnn, 1, 2, retry), told(balance, 3, 4, none)}, []int{1}, true},
		"ErrRetry was not done":                  {[]Call{told(openAnn, 1, 2, retry), told(balance, 3, 4, ok)}, nil, false},
		"ErrRetry ends ahead of its begin":       {[]Call{told(openAnn, 2, 1, retry), told(balance, 3, 4, none)}, []int{1}, true},
		"ErrRetry that was not told counts":      {[]Call{{Op: openAnn, Begin: 1, Reply: retry}, told(balance, 3, 4, ok)}, []int{0, 1}, true},
		"not told, and done":                     {[]Call{told(balance, 3, 4, ok), open(openAnn, 1)}, []int{1, 0}, true},
		"not told, and not done":                 {[]Call{told(balance, 3, 4, none), open(openAnn, 1)}, []int{0}, true},
		"not told, and its End counts nothing":   {[]Call{{Op: openAnn, Begin: 9, End: 1}, told(balance, 3, 9, ok)}, []int{0, 1}, true},
		"not told, and begun too late":           {[]Call{open(openAnn, 5), told(balance, 3, 4, ok)}, nil, false},
		"not told, first, as it takes nothing":   {[]Call{open(audit, 1), told(balance, 3, 4, none)}, []int{0, 1}, true},
		"the last one was told":                  {[]Call{told(openAnn, 1, 2, ok), open(audit, 1), open(balance, 1)}, []int{0}, true},
		"the end is the begin":                   {[]Call{told(balance, 2, 3, ok), told(openAnn, 1, 2, ok)}, []int{1, 0}, true},
		"at once":                                {[]Call{told(balance, 1, 1, ok), told(openAnn, 1, 1, ok)}, []int{1, 0}, true},
		"as they stand, where both ways are":     {[]Call{told(deposit(5, "a"), 9, 10, none), told(audit, 1, 10, ok)}, []int{0, 1}, true},
		"other rows":                             {[]Call{told(openAnn, 1, 2, ok), told(audit, 3, 4, rows(1))}, nil, false},
		"rows":                                   {[]Call{told(openAnn, 1, 2, ok), told(deposit(5, "a"), 3, 9, ok), told(audit, 4, 8, rows(0)), told(audit, 4, 8, rows(5))}, []int{0, 2, 1, 3}, true},
		"rows that need not be nil":              {[]Call{told(audit, 4, 8, api.Reply{Rows: []api.Row{}})}, []int{0}, true},
		"an amount that is none":                 {[]Call{told(openAnn, 1, 2, api.Reply{Amount: 1})}, nil, false},
		"another error":                          {[]Call{told(balance, 1, 2, api.Reply{Why: api.ErrNil})}, nil, false},
		"a wrong operation":                      {[]Call{told(api.Op{}, 1, 2, api.Reply{Why: api.ErrArg})}, []int{0}, true},
		"a wrong operation that went well":       {[]Call{told(api.Op{}, 1, 2, ok)}, nil, false},
		"a key twice":                            {[]Call{told(openAnn, 1, 2, ok), told(deposit(5, "a"), 3, 4, ok), told(deposit(5, "a"), 5, 6, ok), told(balance, 7, 8, api.Reply{Amount: 5})}, []int{0, 1, 2, 3}, true},
		"a key for something else":               {[]Call{told(openAnn, 1, 2, ok), told(deposit(6, "a"), 3, 6, api.Reply{Why: api.ErrKey}), told(deposit(5, "a"), 3, 6, ok)}, []int{0, 2, 1}, true},
		"times below 0":                          {[]Call{told(openAnn, math.MinInt, -7, ok), told(balance, -6, math.MaxInt, none)}, nil, false},
	} {
		t.Run(name, func(t *testing.T) { wantOrder(t, x.l, x.want, x.is, api.OK) })
	}
}

// P21.1: ErrSize, if more than 8 count; else ErrArg, if one that counts, and was told, ends ahead of its begin.
func TestRefused(t *testing.T) {
	early := told(balance, 2, 1, none)
	wantOrder(t, []Call{early}, nil, false, api.ErrArg)
	wantOrder(t, []Call{told(balance, 1, 2, none), told(balance, math.MaxInt, math.MinInt, none)}, nil, false, api.ErrArg)
	wantOrder(t, []Call{told(balance, 2, 2, none)}, []int{0}, true, api.OK)
	wantOrder(t, make([]Call, 8), nil, true, api.OK)
	wantOrder(t, make([]Call, 9), nil, false, api.ErrSize)
	wantOrder(t, append(make([]Call, 8), early), nil, false, api.ErrSize)
	wantOrder(t, append([]Call{early}, make([]Call, 8)...), nil, false, api.ErrSize)
	wantOrder(t, append(make([]Call, 7), early), nil, false, api.ErrArg)
	wantOrder(t, make([]Call, 5000), nil, false, api.ErrSize)
	var l []Call
	for n := range 5000 {
		l = append(l, told(balance, n, n-1, retry))
	}
	wantOrder(t, l, nil, true, api.OK)
	l[77], l[4999] = told(balance, 77, 78, none), told(balance, 1, 2, none)
	wantOrder(t, l, []int{4999, 77}, true, api.OK)
}

// P21.1: one is ahead of another one, if it was told, and its End is below the other one's Begin.
func TestAhead(t *testing.T) {
	for _, x := range []struct {
		a, b Call
		want bool
	}{
		{told(balance, 1, 2, none), told(balance, 3, 4, none), true},
		{told(balance, 1, 3, none), told(balance, 3, 4, none), false},
		{told(balance, 3, 4, none), told(balance, 1, 2, none), false},
		{told(balance, 1, 2, none), open(balance, 3), true},
		{open(balance, 1), told(balance, 3, 4, none), false},
		{Call{Op: balance, Begin: 1, End: 2}, open(balance, 3), false},
		{told(balance, 1, 2, retry), told(balance, 3, 4, none), true},
		{told(balance, 2, 1, none), told(balance, 2, 1, none), true},
		{told(balance, 0, math.MinInt, none), open(balance, math.MaxInt), true},
		{told(balance, 0, math.MaxInt, none), open(balance, math.MinInt), false},
		{Call{}, Call{}, false},
	} {
		if got := Ahead(x.a, x.b); got != x.want {
			t.Errorf("Ahead(%+v, %+v): %v", x.a, x.b, got)
		}
	}
}

// P21.1: of many calls, the first of all orders is answered, or that there is none, as when all lists of numbers are tried.
func TestModel(t *testing.T) {
	orders, nones, late := 0, 0, 0
	for seed := range int64(6000) {
		r := rand.New(rand.NewSource(seed))
		l := anyCalls(r, r.Intn(6))
		for range r.Intn(3) {
			l = spoilt(r, l)
		}
		if slices.ContainsFunc(l, func(c Call) bool { return c.Told && c.End < c.Begin && c.Reply.Why != api.ErrRetry }) {
			wantOrder(t, l, nil, false, api.ErrArg)
			continue
		}
		order, is := firstOrder(l, nil)
		wantOrder(t, l, order, is, api.OK)
		if !is {
			nones++
		} else if orders++; !slices.IsSorted(order) {
			late++
		}
		if t.Failed() {
			t.Fatal("seed", seed)
		}
	}
	if orders < 1500 || nones < 800 || late < 400 {
		t.Errorf("%d orders, %d of them not rising, %d none: too few to tell anything", orders, late, nones)
	}
}

// P1: of 8 calls that can be done in any order, and that all orders have to be tried of, an answer comes soon.
func TestManyWays(t *testing.T) {
	for last := range Most {
		var l []Call
		for n := range Most {
			c := told(api.Op{Kind: api.Open, From: fmt.Sprint("a", n), Key: "o"}, 1, 2, api.Reply{})
			if n > last {
				c = open(c.Op, 1)
			}
			l = append(l, c)
		}
		l[last] = told(api.Op{Kind: api.Audit}, 1, 2, api.Reply{Rows: []api.Row{{Name: "nobody"}}})
		wantOrder(t, l, nil, false, api.OK)
		l[last].Reply.Rows = nil
		wantOrder(t, l, append([]int{last}, []int{0, 1, 2, 3, 4, 5, 6, 7}[:last]...), true, api.OK)
	}
}

// Rule 4: what is handed in is not changed.
func TestNothingChanges(t *testing.T) {
	rows := []api.Row{{Name: "ann", Amount: 5}}
	l := []Call{told(api.Op{Kind: api.Audit}, 1, 2, api.Reply{Rows: rows}), told(openAnn, 1, 2, api.Reply{})}
	was := slices.Clone(l)
	Order(l)
	Linear(l)
	if fmt.Sprint(l) != fmt.Sprint(was) || rows[0] != (api.Row{Name: "ann", Amount: 5}) {
		t.Errorf("%v; was %v", l, was)
	}
}
