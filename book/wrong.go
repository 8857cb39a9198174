package book

import "almoner/api"

// Name tells whether a text can be a name, or a key.
func Name(s string) bool {
	if len(s) < 1 || len(s) > api.MaxName {
		return false
	}
	for i := range len(s) {
		if !ofName(s[i]) {
			return false
		}
	}
	return true
}

// ofName tells whether a name can have this byte.
func ofName(c byte) bool {
	return c >= 'a' && c <= 'z' || c >= '0' && c <= '9' || c == '_'
}

// Wrong answers what is wrong of an operation, whatever accounts there are.
func Wrong(o api.Op) api.Errno {
	switch {
	case o.Kind < api.Open || o.Kind > api.Move:
		return api.ErrArg
	case o.Kind == api.Audit:
		return api.OK
	case o.Kind == api.Move:
		return wrongMove(o)
	case !Name(o.From):
		return api.ErrName
	case o.Kind == api.Balance:
		return api.OK
	}
	return wrongKeyed(o)
}

// wrongMove answers what is wrong of a Move.
func wrongMove(o api.Op) api.Errno {
	if o.Slot < 0 || o.Slot >= api.Slots || o.Shard < 1 || o.Shard > api.MaxShards {
		return api.ErrArg
	}
	return api.OK
}

// wrongKeyed answers what is wrong of an operation with a key, whose From is right.
func wrongKeyed(o api.Op) api.Errno {
	switch {
	case !Name(o.Key):
		return api.ErrName
	case o.Kind == api.Open:
		return api.OK
	case o.Kind == api.Transfer && !Name(o.To):
		return api.ErrName
	case o.Amount < 1:
		return api.ErrAmount
	case o.Kind == api.Transfer && o.To == o.From:
		return api.ErrSelf
	}
	return api.OK
}
