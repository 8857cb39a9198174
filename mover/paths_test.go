package mover

import (
	"crypto/sha256"
	"fmt"
	"slices"
	"testing"

	"almoner/api"
	"almoner/chart"
	"almoner/shard"
	"almoner/txn"
)

// scene is two shards, a chart of which a slot moves, a mover, and all that was ever asked, answered and to follow: any of it may arrive, at any time and as often as you like.
type scene struct {
	shards  [2]*shard.Shard
	chart   *chart.Chart
	mover   *Mover
	moves   []chart.Moving // as they were known at any time: whoever asks may know no later one
	asks    []txn.Ask
	answers []answer
	steps   []chart.Cmd
	slot    int
	most    int // how many may begin
}

// answer is an ask, and what it was answered.
type answer struct {
	ask    txn.Ask
	result shard.Result
}

// newScene is a slot of the first shard with an account and so many answers kept, and a slot of each that stays.
func newScene(t *testing.T, kept, moves int) scene {
	s := scene{chart: mustChart(t, 2), mover: New(), slot: 2, most: moves}
	for i := range s.shards {
		s.shards[i] = mustShard(t, i+1, 2)
		s.shards[i].Do(op(open(named(4+i, 0), "o")))
		s.shards[i].Do(op(deposit(named(4+i, 0), 50, "d")))
	}
	name := named(s.slot, 0)
	s.shards[0].Do(op(open(name, "o")))
	for n := range kept {
		s.shards[0].Do(op(deposit(name, 1, fmt.Sprint("a_key_of_some_length_", n))))
	}
	s.begin()
	return s
}

// begin lets the slot move to the other shard, if nothing moves, and so many moves may begin.
func (s *scene) begin() {
	if s.most > 0 && s.chart.Move() == (chart.Moving{}) {
		s.most--
		s.chart.Do(chart.Cmd{Kind: chart.CmdMove, Slot: s.slot, Shard: 3 - s.chart.Owner(s.slot)})
	}
}

// copy is another scene as it is.
func (s scene) copy() scene {
	for i, x := range s.shards {
		s.shards[i] = x.Copy()
	}
	m := *s.mover
	s.chart, s.mover = s.chart.Copy(), &m
	s.moves, s.asks, s.answers, s.steps = slices.Clone(s.moves), slices.Clone(s.asks), slices.Clone(s.answers), slices.Clone(s.steps)
	return s
}

// key tells a scene from others, in whatever order things came to be asked and answered.
func (s scene) key() [32]byte {
	var known []string
	for _, x := range s.moves {
		known = append(known, fmt.Sprint("move", x))
	}
	for _, a := range s.asks {
		known = append(known, fmt.Sprint("ask", a.Cmd.Kind, a.Cmd.At, a.Cmd.Epoch))
	}
	for _, a := range s.answers {
		known = append(known, fmt.Sprint("answer", a.ask.Cmd.Kind, a.ask.Cmd.At, a.ask.Cmd.Epoch, a.result.Why))
	}
	for _, c := range s.steps {
		known = append(known, fmt.Sprint("step", c))
	}
	slices.Sort(known)
	h := sha256.New()
	for _, x := range s.shards {
		h.Write(x.Image())
	}
	h.Write(s.chart.Image())
	fmt.Fprint(h, s.mover.n, s.mover.has, s.mover.at, s.most, known)
	return [32]byte(h.Sum(nil))
}

// send puts what is asked now among what was ever asked, whoever asks.
func (s *scene) send() {
	if x := s.chart.Move(); x != (chart.Moving{}) && !slices.Contains(s.moves, x) {
		s.moves = append(s.moves, x)
	}
	for _, x := range s.moves {
		// Of a move that is over a mover of its own asks, so that this one does not forget.
		m := s.mover
		if x.N != m.n {
			m = New()
		}
		for a := range m.Asks(x) {
			if !slices.ContainsFunc(s.asks, func(b txn.Ask) bool { return sameAsk(a, b) }) {
				s.asks = append(s.asks, a)
			}
		}
	}
}

// arrive lets an ask arrive.
func (s *scene) arrive(a txn.Ask) answer {
	x := answer{a, s.shards[a.Group-1].Do(a.Cmd)}
	same := func(y answer) bool { return sameAsk(x.ask, y.ask) && x.result.Why == y.result.Why }
	if !slices.ContainsFunc(s.answers, same) {
		s.answers = append(s.answers, x)
	}
	return x
}

// learn lets an answer arrive at whoever knows a move so.
func (s *scene) learn(x chart.Moving, a answer) {
	if c, is := s.mover.Told(x, a.ask, a.result); is && !slices.Contains(s.steps, c) {
		s.steps = append(s.steps, c)
	}
}

// do lets the chart do a step.
func (s *scene) do(c chart.Cmd) {
	s.chart.Do(c)
}

// home is the shard that has the slot's accounts: the new one, once it owns the slot; until it is told to drop them, the elder one has them, too, but nobody can reach them.
func (s *scene) home() int {
	name := named(s.slot, 0)
	if x := s.chart.Move(); x.Phase != chart.Idle && s.shards[x.To-1].Owns(name) {
		return x.To
	}
	return s.chart.Owner(s.slot)
}

// wantWhole asks that the slot's account is there once for who owns it, that nobody else takes operations for it, and that those of other slots stay.
func (s scene) wantWhole(t *testing.T, kept int64) {
	t.Helper()
	s = s.copy()
	name := named(s.slot, 0)
	want := map[string]int64{named(4, 0): 50, named(5, 0): 50, name: kept}
	for i, x := range s.shards {
		for _, r := range x.Rows() {
			if r.Name == name && i+1 != s.home() {
				continue
			}
			if r.Amount != want[r.Name] {
				t.Fatalf("%s has %d at %d; want %d", r.Name, r.Amount, i+1, want[r.Name])
			}
			delete(want, r.Name)
		}
		// With the kept answers it is told what was answered; with a new key it is done, at one shard at most.
		again := x.Do(op(deposit(name, 1, "a_key_of_some_length_0"))).Reply.Why
		anew := x.Do(op(deposit(name, 1, "anew"))).Reply.Why
		if again != anew || again != api.OK && again != api.ErrRetry || again == api.OK && i+1 != s.home() {
			t.Fatalf("%s is told %d and %d at %d", name, again, anew, i+1)
		}
	}
	if len(want) > 0 {
		t.Fatalf("%v are nowhere", want)
	}
}

// wantSoon asks that the move ends behind a few rounds, when all arrives that was asked and answered.
func (s scene) wantSoon(t *testing.T) {
	t.Helper()
	s = s.copy()
	for _, a := range s.asks {
		s.arrive(a)
	}
	for _, a := range s.answers {
		s.learn(s.chart.Move(), a)
	}
	rounds := 0
	for ; s.chart.Move() != (chart.Moving{}); rounds++ {
		if rounds == 10 {
			t.Fatalf("it goes on moving: %+v", s.chart.Move())
		}
		for a := range s.mover.Asks(s.chart.Move()) {
			s.learn(s.chart.Move(), s.arrive(a))
		}
		for _, c := range s.steps {
			s.do(c)
		}
	}
	to := s.home()
	if !s.shards[to-1].Owns(named(s.slot, 0)) || s.shards[2-to].Owns(named(s.slot, 0)) || s.shards[0].Busy()+s.shards[1].Busy() != 0 {
		t.Fatalf("the slot has moved to %d; Busy %d, %d", to, s.shards[0].Busy(), s.shards[1].Busy())
	}
}

// follow goes through all that can follow a scene, and answers how many scenes there are, and in how many all moves have ended.
func follow(t *testing.T, first scene, kept int64) (int, int) {
	first.send()
	seen := map[[32]byte]int{first.key(): 1}
	work := []scene{first}
	ends := 0
	for len(work) > 0 {
		s := work[len(work)-1]
		work = work[:len(work)-1]
		s.wantWhole(t, kept)
		s.wantSoon(t)
		if s.most == 0 && s.chart.Move() == (chart.Moving{}) {
			ends++
		}
		for _, n := range s.next() {
			if k := n.key(); seen[k] == 0 {
				seen[k] = 1
				work = append(work, n)
			}
		}
	}
	return len(seen), ends
}

// next is all scenes that can follow at once.
func (s scene) next() []scene {
	var l []scene
	then := func(do func(n *scene)) {
		n := s.copy()
		do(&n)
		n.send()
		l = append(l, n)
	}
	for _, a := range s.asks {
		then(func(n *scene) { n.arrive(a) })
	}
	for _, a := range s.answers {
		for _, x := range s.moves {
			// What is answered of another move makes it forget, as below.
			if x.Epoch == a.ask.Cmd.Epoch {
				then(func(n *scene) { n.learn(x, a) })
			}
		}
	}
	for _, c := range s.steps {
		then(func(n *scene) { n.do(c) })
	}
	then(func(n *scene) { n.mover = New() })
	then(func(n *scene) { n.begin() })
	return l
}

// P16.4, P3, P6: of one move, and of two of the same slot, all that can happen: whatever asks and answers arrive, when and how often, whoever forgets, the slot moves whole.
func TestMovesWhole(t *testing.T) {
	// So that a slot goes in one, in two and in three pieces.
	for _, c := range []struct{ kept, moves int }{{2, 2}, {40, 2}, {70, 1}} {
		t.Run(fmt.Sprint(c), func(t *testing.T) {
			t.Parallel()
			if n, ends := follow(t, newScene(t, c.kept, c.moves), int64(c.kept)); n < 400 || ends < 80 {
				t.Errorf("%d scenes, in %d of which all moves have ended", n, ends)
			}
		})
	}
}
