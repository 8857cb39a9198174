package node

import (
	"fmt"
	"math"
	"math/rand"
	"testing"

	"almoner/api"
	"almoner/serial"
)

var names = []string{"ann", "bob", "cy", "dora", "eve", "fay", "gus_1", "h"}

// anyOp is an operation on few accounts, of few keys; now and then a wrong one.
func anyOp(r *rand.Rand, shards int) api.Op {
	o := api.Op{
		Kind:   1 + r.Intn(7),
		From:   names[r.Intn(len(names))],
		To:     names[r.Intn(len(names))],
		Amount: 1 + r.Int63n(9),
		Key:    fmt.Sprint("k", r.Intn(40)),
		Slot:   r.Intn(api.Slots),
		Shard:  1 + r.Intn(shards),
	}
	switch r.Intn(25) {
	case 0:
		o.Kind = r.Intn(12) - 2
	case 1:
		o.From = []string{"", "Ann", "a b", "abcdefghijklmnopqrstuvwxy"}[r.Intn(4)]
	case 2:
		o.Key = ""
	case 3:
		o.Amount = []int64{0, -1, math.MinInt64, math.MaxInt64, math.MaxInt64 - 5}[r.Intn(5)]
	case 4:
		o.Shard = r.Intn(6) - 1
	case 5:
		o.Slot = r.Intn(20) - 2
	}
	return o
}

// P19.3, P2: what a machine alone is asked it answers, behind a few ticks, as one ledger alone does, whatever shards the accounts are on, wherever their slots move, and whatever power is lost.
func TestAlone(t *testing.T) {
	seen := map[[2]int]int{}
	for seed := range int64(60) {
		r := rand.New(rand.NewSource(seed))
		shards := 1 + int(seed)%3
		d := newDisk(t, 512)
		x := newAlone(t, shards, d)
		want := serial.New()
		for range 150 {
			o := anyOp(r, shards)
			got, reply := askAlone(t, x, o, 8), want.Do(o)
			if !sameReply(got, reply) {
				t.Fatalf("seed %d: %+v: %+v; want %+v", seed, o, got, reply)
			}
			seen[[2]int{o.Kind, int(reply.Why)}]++
			if r.Intn(30) == 0 {
				d.Crash(nil)
				x = newAlone(t, shards, d)
			}
		}
		wantAtRest(t, x, shards)
		wantAlone(t, x, api.Op{Kind: api.Audit}, want.Do(api.Op{Kind: api.Audit}))
	}
	for kind, errors := range map[int][]api.Errno{
		api.Open:     {api.OK, api.ErrTwice, api.ErrKey, api.ErrName},
		api.Deposit:  {api.OK, api.ErrNone, api.ErrOver, api.ErrKey, api.ErrAmount},
		api.Withdraw: {api.OK, api.ErrNone, api.ErrFunds, api.ErrKey},
		api.Transfer: {api.OK, api.ErrNone, api.ErrFunds, api.ErrOver, api.ErrSelf, api.ErrKey},
		api.Balance:  {api.OK, api.ErrNone, api.ErrName},
		api.Audit:    {api.OK},
		api.Move:     {api.OK, api.ErrArg},
	} {
		for _, why := range errors {
			if seen[[2]int{kind, int(why)}] == 0 {
				t.Errorf("the kind %d was never told %d: too little to tell anything", kind, why)
			}
		}
	}
}

// wantAtRest asks that nothing is held, frozen, on its way, or moving.
func wantAtRest(t *testing.T, x *Node, shards int) {
	t.Helper()
	n, _ := x.Chart().Audit()
	if n != 0 || x.Chart().Move().N != 0 {
		t.Fatalf("the chart: audit %d, move %+v", n, x.Chart().Move())
	}
	for g := 1; g <= shards; g++ {
		if s := x.Shard(g); s.Busy() > 0 || len(s.Pending()) > 0 {
			t.Fatalf("the shard %d: %d busy, %v", g, s.Busy(), s.Pending())
		}
	}
}

// P19.3: twenty ticks are enough, whatever is drawn.
func TestAloneLeads(t *testing.T) {
	for draw := range 10 {
		for shards := 1; shards <= api.MaxShards; shards++ {
			x := newNode(t, 0, 1, shards, newDisk(t, 64))
			for range draw {
				x.Draw(draw)
			}
			for range 20 {
				wantOuts(t, x.Tick())
			}
			for g := range shards + 1 {
				if info := x.Info(g); info.Role != api.Leader || info.Leader != 0 || info.Term != 1 {
					t.Errorf("the group %d: %+v", g, info)
				}
			}
		}
	}
}

// P19.3, P5: many are asked for at once; what can not be done now is told ErrRetry, and nothing was done; in the end all is as the answers tell.
func TestAloneWithMany(t *testing.T) {
	for seed := range int64(20) {
		r := rand.New(rand.NewSource(seed))
		shards := 1 + int(seed)%3
		x := newAlone(t, shards, newDisk(t, 1024))
		for _, name := range names {
			wantAlone(t, x, open(name, "o"), api.Reply{})
			wantAlone(t, x, deposit(name, 20, "d"), api.Reply{})
		}
		amounts := map[string]int64{}
		ops := map[int64]api.Op{}
		hear := func(l []Out) {
			for _, out := range l {
				told := unpack(t, out.Data)
				if o := ops[told.N]; told.Reply.Why == api.OK && o.Kind == api.Transfer {
					amounts[o.From] -= o.Amount
					amounts[o.To] += o.Amount
				}
				delete(ops, told.N)
			}
		}
		for n := range int64(120) {
			ops[n] = api.Op{Kind: api.Audit}
			switch from := r.Intn(len(names)); r.Intn(8) {
			case 0:
				ops[n] = move(r.Intn(api.Slots), 1+r.Intn(shards))
			case 1:
				ops[n] = balance(names[from])
			default:
				to := (from + 1 + r.Intn(len(names)-1)) % len(names)
				ops[n] = transfer(names[from], names[to], 1+r.Int63n(9), fmt.Sprint("t", n))
			}
			hear(x.Handle(-1, callOf(t, n, ops[n])))
			if r.Intn(4) == 0 {
				hear(x.Tick())
			}
		}
		for range 30 {
			hear(x.Tick())
		}
		if len(ops) > 0 {
			t.Fatalf("seed %d: nothing is told of %v", seed, ops)
		}
		wantAtRest(t, x, shards)
		for _, name := range names {
			wantAlone(t, x, balance(name), api.Reply{Amount: 20 + amounts[name]})
		}
	}
}

// P19.3, P5: a machine alone whose shards or disk have no room any more refuses, and goes on with all else: it is not dead.
func TestAloneWithNoRoom(t *testing.T) {
	for _, sectors := range []int{64, 65, 100, 200, 512} {
		for shards := 1; shards <= api.MaxShards; shards++ {
			d := newDisk(t, sectors)
			x := newAlone(t, shards, d)
			want := serial.New()
			refused := 0
			for i := 0; refused < 100 && i < 2000; i++ {
				o := deposit(names[i%len(names)], 1+int64(i), fmt.Sprint("a_long_key_", i))
				if i < len(names) {
					o = open(names[i], "o")
				} else if i < 50 || i%8 == 0 {
					o = open(fmt.Sprint("a_long_name_", i), "o")
				} else if i%9 == 0 {
					o = transfer(names[i%len(names)], names[(i+3)%len(names)], 1, fmt.Sprint("t", i))
				} else if i%31 == 0 {
					o = move(i%api.Slots, 1+i%shards)
				}
				got := askAlone(t, x, o, 9)
				if got.Why == api.ErrRetry {
					refused++
				} else if reply := want.Do(o); !sameReply(got, reply) {
					t.Fatalf("%+v: %+v; want %+v", o, got, reply)
				}
			}
			if refused < 100 || x.Dead() {
				t.Fatalf("%d sectors, %d shards: Dead %v, %d refused", sectors, shards, x.Dead(), refused)
			}
			wantAlone(t, x, api.Op{Kind: api.Audit}, want.Do(api.Op{Kind: api.Audit}))
			d.Crash(nil)
			x = newAlone(t, shards, d)
			wantAlone(t, x, api.Op{Kind: api.Audit}, want.Do(api.Op{Kind: api.Audit}))
		}
	}
}

// P19.3, P6: what is under way is counted with what takes room, ahead of taking any.
func TestRoomForWhatIsUnderWay(t *testing.T) {
	w := newTrio(t, 2, 256)
	for _, name := range []string{"ann", "dora"} {
		w.wantAnswer(open(name, "o"), api.Reply{})
	}
	w.wantAnswer(deposit("ann", 9, "d"), api.Reply{})
	x := w.nodes[0]
	rest := x.space.needed(x.groups, false)
	w.call(0, 1, transfer("ann", "dora", 4, "t"))
	proposed := x.space.needed(x.groups, false)
	if least := growth * len("ann/t/1.1 dora"); proposed < rest+least {
		t.Errorf("%d bytes are needed, and were %d", proposed, rest)
	}
	w.arrive()
	if begun := x.space.needed(x.groups, false); begun <= rest+len("ann/t/1.1 dora") {
		t.Errorf("%d bytes are needed, and were %d", begun, rest)
	}
	if moving := x.space.needed(x.groups, true); moving < rest+x.groups[1].size() {
		t.Errorf("%d bytes are needed for a slot that moves, and were %d", moving, rest)
	}
}
