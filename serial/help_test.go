package serial

import (
	"fmt"
	"slices"
	"strings"
	"testing"

	"almoner/api"
)

// Operations by what they are, in the order From, (To,) (Amount,) Key.

func open(from, key string) api.Op {
	return api.Op{Kind: api.Open, From: from, Key: key}
}

func deposit(from string, n int64, key string) api.Op {
	return api.Op{Kind: api.Deposit, From: from, Amount: n, Key: key}
}

func withdraw(from string, n int64, key string) api.Op {
	return api.Op{Kind: api.Withdraw, From: from, Amount: n, Key: key}
}

func transfer(from, to string, n int64, key string) api.Op {
	return api.Op{Kind: api.Transfer, From: from, To: to, Amount: n, Key: key}
}

func balance(from string) api.Op {
	return api.Op{Kind: api.Balance, From: from}
}

func audit() api.Op {
	return api.Op{Kind: api.Audit}
}

// done is a new ledger that has done operations, whatever it answered.
func done(l ...api.Op) *Ledger {
	g := New()
	for _, o := range l {
		g.Do(o)
	}
	return g
}

// wantDo asks that an operation is answered so, with nothing beside it.
func wantDo(t *testing.T, l *Ledger, o api.Op, want api.Errno) {
	t.Helper()
	if r := l.Do(o); !same(r, api.Reply{Why: want}) {
		t.Errorf("Do %+v: %+v, want %d", o, r, want)
	}
}

func wantText(t *testing.T, l *Ledger, want string) {
	t.Helper()
	if got := l.Text(); got != want {
		t.Fatalf("Text: %s; want %s", got, want)
	}
}

// same tells whether two answers are one.
func same(a, b api.Reply) bool {
	return a.Why == b.Why && a.Amount == b.Amount && slices.Equal(a.Rows, b.Rows)
}

// rows is all accounts as a text, as an Audit tells them.
func rows(l *Ledger) string {
	var words []string
	for _, r := range l.Do(audit()).Rows {
		words = append(words, fmt.Sprintf("%s=%d", r.Name, r.Amount))
	}
	return strings.Join(words, " ")
}
