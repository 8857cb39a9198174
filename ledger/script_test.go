package ledger

import (
	"flag"
	"fmt"
	"slices"
	"testing"

	"almoner/api"
	"almoner/history"
)

var (
	scripts = flag.Int("scripts", 60, "how many scripts of each kind are tried")
	first   = flag.Int64("first", 0, "the first script's seed")
)

// few is an operation on few accounts, of few keys; some ask for another one again. Behind most of them that play a part there is none any more: the order of many is long to be found.
func (p *play) few(names []string, most int) (api.Op, bool) {
	calls := counting(p.l.Calls())
	if len(calls) >= most {
		return api.Op{}, false
	}
	if len(calls) > 0 && p.r.Intn(3) == 0 {
		return calls[len(calls)-1-p.r.Intn(min(len(calls), 5))].Op, true
	}
	from := p.r.Intn(len(names))
	to := (from + 1 + p.r.Intn(len(names)-1)) % len(names)
	o := api.Op{From: names[from], Key: fmt.Sprint("k", p.r.Intn(8)), Amount: 1 + p.r.Int63n(5)}
	switch p.r.Intn(16) {
	case 0:
		o.Kind = api.Open
	case 1, 2:
		o.Kind = api.Deposit
	case 3:
		o.Kind = api.Withdraw
	case 4, 5:
		o = balanceOf(names[from])
	case 6:
		o = api.Op{Kind: api.Audit}
	case 7, 8, 9:
		o = p.move(names)
	case 10:
		o.Kind, o.Amount = api.Deposit, -1
	default:
		o.Kind, o.To = api.Transfer, names[to]
	}
	return o, true
}

// P22.5, P22.6, P22.7, P2, P3, P4, P5, P6, P8: whatever the script, what was told is as if one operation was done after another; behind a Restart all comes to rest, is answered, and is answered as it was.
func TestScripts(t *testing.T) {
	names := []string{"ann", "bob", "cy", "dora"}
	seen := map[[2]int]int{}
	for seed := *first; seed < *first+int64(*scripts); seed++ {
		p := newPlay(t, seed)
		for _, name := range names[:2+p.r.Intn(3)] {
			p.do(openOf(name, "o"))
			p.do(depositOf(name, 10, "d"))
		}
		for range 100 + p.r.Intn(300) {
			p.any(func() (api.Op, bool) { return p.few(names, 18) })
			if p.r.Intn(20) == 0 {
				p.wantAgreed()
			}
		}
		p.restart()
		if p.r.Intn(2) == 0 {
			p.quiet()
		}
		p.do(p.move(names))
		p.do(api.Op{Kind: api.Audit})
		p.quiet()
		if !inOrder(p.l.Calls()) {
			p.fail("there is no order of what was told")
		}
		p.wantSameAnswers()
		p.do(api.Op{Kind: api.Audit})
		p.quiet()
		p.wantAgreed()
		for _, c := range p.l.Calls() {
			seen[[2]int{c.Op.Kind, int(c.Reply.Why)}]++
		}
	}
	t.Log("kinds, and what was told of them:", seen)
}

// P22.5, P21.1: the same of scripts so short that history looks at them.
func TestShortScripts(t *testing.T) {
	names := []string{"ann", "bob"}
	counted := map[int]int{}
	for seed := *first; seed < *first+int64(*scripts); seed++ {
		p := newPlay(t, seed)
		ops := []api.Op{openOf("ann", "o"), openOf("bob", "o"), depositOf("ann", 5, "d"), transferOf("ann", "bob", 2, "t")}
		for range 12 {
			p.step(at(api.EvRound, 0))
		}
		op := func() (api.Op, bool) {
			switch at := len(counting(p.l.Calls())); {
			case at >= history.Most-1:
				return api.Op{}, false
			case at < len(ops) && p.r.Intn(6) > 0:
				return ops[at], true
			}
			return p.few(names, history.Most-1)
		}
		for range 60 + p.r.Intn(200) {
			p.any(op)
		}
		p.restart()
		p.quiet()
		var l []history.Call
		for _, c := range p.l.Calls() {
			if counts(c) {
				l = append(l, c)
			}
		}
		if is, why := history.Linear(l); !is || why != api.OK {
			p.fail(fmt.Sprintf("Linear: %v, %d", is, why))
		}
		p.do(api.Op{Kind: api.Audit})
		l = p.l.Calls()
		switch is, why := history.Linear(l); {
		case len(counting(l)) > history.Most && why == api.ErrSize:
		case !is || why != api.OK:
			p.fail(fmt.Sprintf("Linear: %v, %d", is, why))
		}
		counted[len(counting(l))]++
	}
	t.Log("how many calls play a part:", counted)
}

// P22.7, P22.8, P3, P4: whatever the script, all that was put in and not taken out is there, each key once; and no audit ever told anything else.
func TestSum(t *testing.T) {
	names := []string{"ann", "bob", "cy", "dora", "eve", "fay", "gus", "hal", "ida", "jo"}
	transfers := 0
	for seed := *first; seed < *first+int64(*scripts)/4; seed++ {
		p := newPlay(t, seed)
		for _, name := range names {
			p.do(openOf(name, "o"))
		}
		keys := 0
		op := func() (api.Op, bool) {
			switch p.r.Intn(8) {
			case 0:
				return api.Op{Kind: api.Audit}, true
			case 1:
				return p.move(names), true
			case 2:
				return p.keyed(names, p.r.Intn(keys+1)), true
			}
			keys = min(keys+1, 150)
			return p.keyed(names, keys-1), true
		}
		for range 1500 {
			p.any(op)
		}
		p.restart()
		p.wantSameAnswers()
		sum := int64(0)
		for k := range keys + 1 {
			o := p.keyed(names, k)
			switch r := p.do(o); {
			case r.Why == api.OK && o.Kind == api.Deposit:
				sum += o.Amount
			case r.Why == api.OK && o.Kind == api.Withdraw:
				sum -= o.Amount
			case r.Why == api.OK:
				transfers++
			}
		}
		if got, why := p.l.Sum(); got != sum || why != api.OK {
			p.fail(fmt.Sprintf("Sum: %d, %d; want %d", got, why, sum))
		}
		p.quiet()
		p.wantAudits(names)
	}
	if transfers < 100 {
		t.Errorf("%d transfers: too few to tell anything", transfers)
	}
}

// keyed is the operation of a key: deposits first, then more and more transfers.
func (p *play) keyed(names []string, k int) api.Op {
	from := k * 7 % len(names)
	to := (from + 1 + k/3%(len(names)-1)) % len(names)
	o := api.Op{Kind: api.Transfer, From: names[from], To: names[to], Amount: 1 + int64(k%9), Key: fmt.Sprint("t", k)}
	if k < 15 || k%10 == 0 {
		o.Kind, o.To = api.Deposit, ""
	} else if k%10 == 5 {
		o.Kind, o.To = api.Withdraw, ""
	}
	return o
}

// wantAudits asks that each audit that was told has all accounts, and in them together no more than may have come by its end, and no less than must have come by its begin.
func (p *play) wantAudits(names []string) {
	p.t.Helper()
	calls := p.l.Calls()
	for _, c := range calls {
		if c.Op.Kind != api.Audit || !c.Told || c.Reply.Why != api.OK {
			continue
		}
		sum := int64(0)
		var rows []string
		for _, row := range c.Reply.Rows {
			sum += row.Amount
			rows = append(rows, row.Name)
		}
		mayIn, mustIn := moved(calls, c, api.Deposit)
		mayOut, mustOut := moved(calls, c, api.Withdraw)
		if !slices.Equal(rows, names) || sum > mayIn-mustOut || sum < mustIn-mayOut {
			p.fail(fmt.Sprintf("%+v: %d together; want from %d to %d", c, sum, mustIn-mayOut, mayIn-mustOut))
		}
	}
}

// moved is how much operations of a kind may have moved by the end of a call, and must have moved by its begin, each key once.
func moved(calls []history.Call, by history.Call, kind int) (int64, int64) {
	may, must := map[api.Op]int64{}, map[api.Op]int64{}
	for _, c := range calls {
		if c.Op.Kind != kind {
			continue
		}
		if c.Begin < by.End {
			may[c.Op] = c.Op.Amount
		}
		if history.Ahead(c, by) && c.Reply.Why == api.OK {
			must[c.Op] = c.Op.Amount
		}
	}
	return total(may), total(must)
}

func total(amounts map[api.Op]int64) int64 {
	sum := int64(0)
	for _, n := range amounts {
		sum += n
	}
	return sum
}
