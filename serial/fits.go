package serial

import (
	"slices"

	"almoner/api"
	"almoner/book"
)

// Fits tells whether an answer could be one to an operation, of some ledger.
func Fits(o api.Op, r api.Reply) bool {
	if wrong := book.Wrong(o); wrong != api.OK {
		return r.Why == wrong
	}
	switch {
	case !canBe(o.Kind, r.Why):
		return false
	case o.Kind == api.Audit:
		return r.Amount == 0 && canBeAudited(r.Rows)
	case o.Kind == api.Balance && r.Why == api.OK:
		return r.Amount >= 0 && len(r.Rows) == 0
	}
	return r.Amount == 0 && len(r.Rows) == 0
}

// canBe tells whether a right operation of a kind can be answered so.
func canBe(kind int, why api.Errno) bool {
	return why == api.OK || slices.Contains(refusals(kind), why)
}

// refusals answers the errors of a right operation of a kind.
func refusals(kind int) []api.Errno {
	switch kind {
	case api.Open:
		return []api.Errno{api.ErrTwice, api.ErrKey}
	case api.Deposit:
		return []api.Errno{api.ErrNone, api.ErrOver, api.ErrKey}
	case api.Withdraw:
		return []api.Errno{api.ErrNone, api.ErrFunds, api.ErrKey}
	case api.Transfer:
		return []api.Errno{api.ErrNone, api.ErrFunds, api.ErrOver, api.ErrKey}
	case api.Balance:
		return []api.Errno{api.ErrNone}
	}
	return nil
}

// canBeAudited tells whether rows can be all accounts of a ledger: none twice, in order, none in debt.
func canBeAudited(rows []api.Row) bool {
	for i, r := range rows {
		if r.Amount < 0 || i > 0 && r.Name <= rows[i-1].Name {
			return false
		}
	}
	return true
}
