package shard

import (
	"slices"

	"almoner/api"
	"almoner/book"
)

// mostBegun is how many transfers can ever begin.
const mostBegun = 1 << 60

// operate does a client's operation, if it is this shard's to do and nothing stands in its way.
func (s *Shard) operate(c Cmd) Result {
	o := c.Op
	if why := book.Wrong(o); why != api.OK {
		return told(why)
	}
	switch {
	case o.Kind == api.Audit, o.Kind == api.Move, !s.serves(o.From):
		return told(api.ErrRetry)
	case o.Kind == api.Balance:
		return s.balance(o.From)
	}
	if k, is := s.kept[asked(o)]; is {
		return told(k.to(o))
	}
	if s.underWay(o) || s.frozen != 0 || s.holds(o.From) || s.room() <= 0 {
		return told(api.ErrRetry)
	}
	return s.first(o)
}

// balance tells what is in an account, unless a transfer that is not decided may change it.
func (s *Shard) balance(name string) Result {
	if s.holds(name) {
		return told(api.ErrRetry)
	}
	has, why := s.accounts.Get(name)
	return Result{Reply: api.Reply{Why: why, Amount: has}}
}

// underWay tells whether a transfer has begun for an operation's From and Key.
func (s *Shard) underWay(o api.Op) bool {
	return slices.ContainsFunc(s.transfers, func(t Txn) bool {
		return t.From == o.From && t.Key == o.Key
	})
}

// first does an operation whose key is new.
func (s *Shard) first(o api.Op) Result {
	switch o.Kind {
	case api.Open:
		return s.open(o)
	case api.Deposit:
		return s.keep(o, s.accounts.Add(o.From, o.Amount))
	case api.Withdraw:
		return s.keep(o, s.accounts.Take(o.From, o.Amount))
	}
	return s.transfer(o)
}

// open opens an account. That there is no room may change, so it is not kept.
func (s *Shard) open(o api.Op) Result {
	why := s.accounts.Open(o.From)
	if why == api.ErrFull {
		return told(api.ErrRetry)
	}
	return s.keep(o, why)
}

// transfer does a transfer, or lets it begin, if it goes to another shard.
func (s *Shard) transfer(o api.Op) Result {
	has, why := s.accounts.Get(o.From)
	switch {
	case why != api.OK:
		return s.keep(o, why)
	case has < o.Amount:
		return s.keep(o, api.ErrFunds)
	case s.Owns(o.To):
		return s.transferWithin(o)
	}
	return s.begin(o)
}

// transferWithin does a transfer between two accounts of this shard, the first one of which has enough.
func (s *Shard) transferWithin(o api.Op) Result {
	if !s.serves(o.To) || s.holds(o.To) {
		return told(api.ErrRetry)
	}
	why := s.accounts.Add(o.To, o.Amount)
	if why == api.OK {
		s.accounts.Take(o.From, o.Amount)
	}
	return s.keep(o, why)
}

// begin lets a transfer to another shard begin: its amount is in no account until it is decided.
func (s *Shard) begin(o api.Op) Result {
	if s.began >= mostBegun {
		return told(api.ErrRetry)
	}
	s.began++
	t := Txn{Id: Id(o, s.me, s.began), From: o.From, Key: o.Key, To: o.To, N: o.Amount}
	s.accounts.Take(t.From, t.N)
	s.accounts.Hold(t.From, t.Id)
	s.transfers = append(s.transfers, t)
	return Result{Wait: true, Reply: api.Reply{Why: api.ErrRetry}}
}
