package shard

import (
	"slices"

	"almoner/api"
)

// freeze keeps all accounts as they are for an audit, and tells them once no transfer is half done.
func (s *Shard) freeze(c Cmd) Result {
	if c.Epoch <= s.over || s.frozen != 0 && c.Epoch < s.frozen {
		return refused(api.ErrState)
	}
	s.frozen = c.Epoch
	if len(s.prepared) > 0 || slices.ContainsFunc(s.transfers, func(t Txn) bool { return !t.Done }) {
		return refused(api.ErrRetry)
	}
	return Result{Reply: api.Reply{Rows: s.Rows()}}
}

// thaw lets an audit be over, with those ahead of it.
func (s *Shard) thaw(c Cmd) Result {
	if c.Epoch < 1 {
		return refused(api.ErrArg)
	}
	s.over = max(s.over, c.Epoch)
	if s.frozen <= c.Epoch {
		s.frozen = 0
	}
	return refused(api.OK)
}
