package txn

import (
	"fmt"
	"math"
	"slices"
	"strings"
	"testing"

	"almoner/api"
	"almoner/shard"
)

// The names of the scenes: from is the first shard's, to the second one's, and may move to the third one.
var (
	from = named(0, 0)
	to   = named(1, 0)
)

// scene is three shards, the first one of which has a transfer, and all that was ever asked and answered: any of it may arrive, at any time and as often as you like.
type scene struct {
	shards  [3]*shard.Shard
	asks    []string
	answers []string // an ask's bytes, a |, a result's
	home    int      // the place of the shard that has to's slot
	epoch   int64
	begun   int // how often the transfer was asked for
}

// happening is something else that happens, if it can; it may happen again.
type happening func(s *scene)

func newScene(t *testing.T, has int64, first ...happening) scene {
	s := scene{home: 1}
	for i := range s.shards {
		s.shards[i] = mustNew(t, i+1, 3)
	}
	for _, h := range append([]happening{at(0, op(open(from, "o"))), at(0, op(deposit(from, has, "d")))}, first...) {
		h(&s)
	}
	s.begun = 1
	if r := s.shards[0].Do(op(transfer(from, to, 5, "k"))); !r.Wait {
		t.Fatalf("the transfer did not begin: %+v", r)
	}
	return s
}

// at is a command that a shard does.
func at(place int, c shard.Cmd) happening {
	return func(s *scene) { s.shards[place].Do(c) }
}

// again is the transfer asked for again, at most twice in all.
func again(s *scene) {
	if s.begun < 2 && len(s.shards[0].Pending()) == 0 {
		s.begun++
		s.shards[0].Do(op(transfer(from, to, 5, "k")))
	}
}

// hold is to's slot held back, so that it can move to the other one of the second and the third shard, at most thrice.
func hold(s *scene) {
	if s.epoch < 3 {
		s.shards[s.home].Do(shard.Cmd{Kind: shard.CmdHold, Slot: slotOf(to), Epoch: s.epoch + 1})
	}
}

// heldBack tells whether to's slot is held back: it is told then without being asked for.
func (s *scene) heldBack() bool {
	r := s.shards[s.home].Copy().Do(prepare("nobody", to, 1))
	return r.Why == api.ErrState
}

// move is to's slot moved, if it is held back and no account of it is held.
func move(s *scene) {
	if !s.heldBack() {
		return
	}
	c := shard.Cmd{Kind: shard.CmdHold, Slot: slotOf(to), Epoch: s.epoch + 1}
	r := s.shards[s.home].Do(c)
	if r.Why != api.OK {
		return
	}
	other := 3 - s.home
	c.Kind, c.Last, c.Data = shard.CmdInstall, true, r.Data
	s.shards[other].Do(c)
	c.Kind = shard.CmdDrop
	s.shards[s.home].Do(c)
	s.home, s.epoch = other, s.epoch+1
}

// copy is another scene as it is.
func (s scene) copy() scene {
	for i, x := range s.shards {
		s.shards[i] = x.Copy()
	}
	s.asks, s.answers = slices.Clone(s.asks), slices.Clone(s.answers)
	return s
}

// key tells a scene from others.
func (s scene) key() string {
	var l []string
	for _, x := range s.shards {
		l = append(l, string(x.Image()))
	}
	l = append(append(append(l, s.asks...), "answers"), s.answers...)
	return fmt.Sprint(s.home, s.epoch, s.begun) + strings.Join(l, "\n")
}

// note puts a text into a list that rises, once.
func note(l []string, text string) []string {
	if i, is := slices.BinarySearch(l, text); !is {
		return slices.Insert(l, i, text)
	}
	return l
}

// send puts all that is asked now among what was ever asked. (Whatever was asked may be lost: nothing need arrive.)
func (s *scene) send(t *testing.T) {
	for a := range Asks(1, 3, s.shards[0].Pending()) {
		b, why := Bytes(a)
		if why != api.OK {
			t.Fatalf("Bytes of %+v: %d", a, why)
		}
		s.asks = note(s.asks, string(b))
	}
}

// arrive lets an ask arrive; what is answered is among what was ever answered.
func (s *scene) arrive(t *testing.T, ask string) {
	a, why := Parse([]byte(ask))
	if why != api.OK {
		t.Fatalf("Parse of %x: %d", ask, why)
	}
	b, why := PutResult(s.shards[a.Group-1].Do(a.Cmd))
	if why != api.OK {
		t.Fatalf("PutResult: %d", why)
	}
	s.answers = note(s.answers, ask+"|"+string(b))
}

// learn lets an answer arrive.
func (s *scene) learn(t *testing.T, answer string) {
	cut := strings.LastIndex(answer, "|") // a result has none, as no error's number has that byte
	a, why := Parse([]byte(answer[:cut]))
	r, whyNot := GetResult([]byte(answer[cut+1:]))
	if why != api.OK || whyNot != api.OK {
		t.Fatalf("%x is not read: %d, %d", answer, why, whyNot)
	}
	if c, is := Next(a, r); is {
		s.shards[0].Do(c)
	}
}

// has tells what is in an account of a shard; -1, if it is not there.
func has(x *shard.Shard, name string) int64 {
	for _, r := range x.Rows() {
		if r.Name == name {
			return r.Amount
		}
	}
	return -1
}

// wantWhole asks that nothing is lost, and that the transfer is done at both, or at none, if nobody asks any more.
func (s scene) wantWhole(t *testing.T, start int64, has0 func(s scene) int64) {
	t.Helper()
	s = s.copy()
	is, came := has(s.shards[0], from), has0(s)
	there := max(has(s.shards[s.home], to), 0)
	for _, x := range s.shards[0].Pending() {
		switch {
		case !x.Done:
			is += x.N
		case x.Why == api.OK:
			// What it adds yet, it adds by this alone.
			s.shards[s.home].Do(finish(x.Id, to, api.OK))
			there = has(s.shards[s.home], to)
		}
	}
	if is-start+there-came != 0 {
		t.Fatalf("%s has %d of %d, %s %d of %d", from, is, start, to, there, came)
	}
	if len(s.shards[0].Pending()) > 0 {
		return
	}
	s.wantNoneHeld(t)
	r := s.shards[0].Do(op(transfer(from, to, 5, "k")))
	if done := r.Why == api.OK && r.Reply.Why == api.OK; done != (there == came+5) || !done && there != came {
		t.Fatalf("answered %+v; %s has %d of %d", r, to, there, came)
	}
}

// wantNoneHeld asks that no account is held, but by another transfer.
func (s scene) wantNoneHeld(t *testing.T) {
	t.Helper()
	s = s.copy()
	s.shards[s.home].Do(finish("other", to, api.ErrRetry))
	for i, x := range s.shards {
		n := x.Busy()
		if x.Frozen() != 0 {
			n--
		}
		if i == s.home && s.heldBack() {
			n--
		}
		if n != 0 {
			t.Fatalf("the shard %d is busy: %d", i+1, n)
		}
	}
}

// wantSoon asks that nobody asks any more, when all arrives that was and is asked and answered, and a slot that is held back moves.
func (s scene) wantSoon(t *testing.T) {
	t.Helper()
	s = s.copy()
	for range 4 {
		for _, a := range s.answers {
			s.learn(t, a)
		}
		move(&s)
		s.send(t)
		for _, a := range s.asks {
			s.arrive(t, a)
		}
	}
	for _, a := range s.answers {
		s.learn(t, a)
	}
	if l := s.shards[0].Pending(); len(l) > 0 {
		t.Fatalf("it goes on asking for %+v", l)
	}
	s.wantNoneHeld(t)
}

// follow goes through all that can follow a scene, and answers how many scenes there are.
func follow(t *testing.T, first scene, start int64, came func(s scene) int64, happenings ...happening) int {
	t.Helper()
	first.send(t)
	seen := map[string]int{first.key(): 1}
	work := []scene{first}
	for len(work) > 0 {
		s := work[len(work)-1]
		work = work[:len(work)-1]
		s.wantWhole(t, start, came)
		s.wantSoon(t)
		var next []scene
		then := func(do func(s *scene)) {
			n := s.copy()
			do(&n)
			n.send(t)
			next = append(next, n)
		}
		for _, a := range s.asks {
			then(func(n *scene) { n.arrive(t, a) })
		}
		for _, a := range s.answers {
			then(func(n *scene) { n.learn(t, a) })
		}
		for _, h := range happenings {
			then(h)
		}
		for _, n := range next {
			if k := n.key(); seen[k] == 0 {
				seen[k] = 1
				work = append(work, n)
			}
		}
	}
	return len(seen)
}

// steady is that what to has, but for the transfer, stays.
func steady(n int64) func(s scene) int64 {
	return func(scene) int64 { return n }
}

// P15.4, P3, P6: of one transfer between two shards, all that can happen: whatever asks and answers arrive, when and how often, it is done at both, or at none, in the end.
func TestBothOrNone(t *testing.T) {
	opened, held := at(1, op(open(to, "o"))), at(1, prepare("other", to, 3))
	full := at(1, op(deposit(to, math.MaxInt64-2, "d")))
	for _, c := range []struct {
		what       string
		first      []happening
		came       func(s scene) int64
		happenings []happening
	}{
		{"plain", []happening{opened}, steady(0), []happening{again}},
		{"an account that comes to be", nil, steady(0), []happening{opened, again}},
		{"an account that is held", []happening{opened, held}, otherDone, []happening{again, at(1, finish("other", to, api.OK))}},
		{"an account that another one may have", []happening{opened}, otherDone, []happening{held, at(1, finish("other", to, api.ErrRetry))}},
		{"an account that is full", []happening{opened, full}, leftOf(math.MaxInt64 - 2), []happening{at(1, op(withdraw(to, 9, "w")))}},
		{"an audit", []happening{opened}, steady(0), []happening{again, at(0, freeze(1)), at(1, freeze(1)), at(0, thaw(1)), at(1, thaw(1))}},
		{"a slot that moves", []happening{opened}, steady(0), []happening{hold, move}},
		{"an account that comes to be in a slot that moves", nil, steady(0), []happening{opened, hold, move}},
	} {
		t.Run(c.what, func(t *testing.T) {
			t.Parallel()
			if n := follow(t, newScene(t, 9, c.first...), 9, c.came, c.happenings...); n < 20 {
				t.Errorf("only %d scenes", n)
			}
		})
	}
}

// otherDone is what another transfer has brought to to, if it is done.
func otherDone(s scene) int64 {
	if has(s.shards[1], to) >= 3 && has(s.shards[1], to) != 5 {
		return 3
	}
	return 0
}

// leftOf is what is left of what to had, of which some may have been withdrawn.
func leftOf(n int64) func(s scene) int64 {
	return func(s scene) int64 {
		if has(s.shards[1], to) < n {
			return n - 9
		}
		return n
	}
}
