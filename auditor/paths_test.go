package auditor

import (
	"cmp"
	"crypto/sha256"
	"fmt"
	"slices"
	"strings"
	"testing"

	"almoner/api"
	"almoner/chart"
	"almoner/shard"
	"almoner/txn"
)

// The names of the scenes: the first one is the first shard's, the second one the second one's; nobody opens the last one, which is the first shard's.
var (
	first  = named(0, 0)
	second = named(1, 0)
	nobody = named(0, 1)
)

// view is an audit, as whoever drives it knows it.
type view struct {
	n     int64
	phase int
}

// answer is an ask, and what it was answered, as they come: written and read.
type answer struct {
	ask    txn.Ask
	result shard.Result
	bytes  string // of both, so that one is told from another
}

// scene is two shards, a chart, an auditor, and all that was ever asked, answered and to follow: any of it may arrive, at any time and as often as you like.
type scene struct {
	shards  [2]*shard.Shard
	chart   *chart.Chart
	auditor Auditor
	views   []view   // the audits as they were known at any time: whoever drives them may know no later one
	asks    []answer // without a result
	answers []answer
	steps   []chart.Cmd
	times   []string // what all accounts had, at each time from when an audit began until it was cut, behind its number
	begun   int      // how often a transfer was asked for
	most    int      // how many audits may begin
	late    bool     // may the auditor forget, and know an elder phase?
}

// happening is something else that happens, if it can; it may happen again.
type happening func(s *scene)

// newScene is two accounts that have 10 each, and an audit that has begun.
func newScene(t *testing.T, audits int, late bool) scene {
	s := scene{chart: mustChart(t, 2), auditor: *New(2), most: audits, late: late}
	for i, name := range []string{first, second} {
		s.shards[i] = mustShard(t, i+1, 2)
		s.shards[i].Do(op(open(name, "o")))
		s.shards[i].Do(op(deposit(name, 10, "d")))
	}
	begin(&s)
	return s
}

// begin lets an audit begin, if none is there, and so many may.
func begin(s *scene) {
	if _, phase := s.chart.Audit(); s.most > 0 && phase == chart.Idle {
		s.most--
		s.chart.Do(chart.Cmd{Kind: chart.CmdAudit})
	}
}

// calls is an operation that the shard of its account is asked for.
func calls(o api.Op) happening {
	return func(s *scene) { s.shards[slotOf(o.From)%2].Do(op(o)) }
}

// sends is a transfer that is asked for, if none is on its way, and not too often.
func sends(o api.Op, often int) happening {
	return func(s *scene) {
		if s.begun < often && len(s.shards[0].Pending())+len(s.shards[1].Pending()) == 0 {
			s.begun++
			calls(o)(s)
		}
	}
}

// copy is another scene as it is.
func (s scene) copy() scene {
	for i, x := range s.shards {
		s.shards[i] = x.Copy()
	}
	s.chart = s.chart.Copy()
	s.views, s.asks, s.answers, s.steps, s.times = slices.Clone(s.views), slices.Clone(s.asks), slices.Clone(s.answers), slices.Clone(s.steps), slices.Clone(s.times)
	return s
}

// key tells a scene from others, in whatever order things came to be asked and answered: its lists rise.
func (s scene) key() [32]byte {
	b := slices.Concat(s.shards[0].Image(), s.shards[1].Image(), s.chart.Image())
	for _, l := range [][]answer{s.asks, s.answers} {
		for _, a := range l {
			b = append(append(b, a.bytes...), '|')
		}
	}
	return sha256.Sum256(fmt.Append(b, s.auditor, s.views, s.steps, s.times, s.begun, s.most))
}

// noted puts something into a list that rises, once.
func noted[T any](l []T, x T, order func(a, b T) int) []T {
	if i, is := slices.BinarySearchFunc(l, x, order); !is {
		return slices.Insert(l, i, x)
	}
	return l
}

func answersRise(a, b answer) int { return strings.Compare(a.bytes, b.bytes) }

func stepsRise(a, b chart.Cmd) int { return cmp.Or(cmp.Compare(a.N, b.N), cmp.Compare(a.Kind, b.Kind)) }

func viewsRise(a, b view) int { return cmp.Or(cmp.Compare(a.n, b.n), cmp.Compare(a.phase, b.phase)) }

// has is what all accounts have together: a transfer that is decided is done, one that is not has not begun.
func (s scene) has() string {
	back := map[string]int64{}
	var shards []*shard.Shard
	for _, x := range s.shards {
		shards = append(shards, x.Copy())
	}
	for _, x := range shards {
		for _, p := range x.Pending() {
			if !p.Done {
				back[p.From] += p.N
			} else if p.Why == api.OK {
				shards[slotOf(p.To)%2].Do(shard.Cmd{Kind: shard.CmdFinish, Id: p.Id, Name: p.To})
			}
		}
	}
	rows := slices.Concat(shards[0].Rows(), shards[1].Rows())
	for i := range rows {
		rows[i].Amount += back[rows[i].Name]
	}
	return textOf(rows)
}

// textOf is rows as a text, in the order of their names.
func textOf(rows []api.Row) string {
	var l []string
	for _, r := range rows {
		l = append(l, fmt.Sprint(r.Name, "=", r.Amount))
	}
	slices.Sort(l)
	return strings.Join(l, " ")
}

// send puts what is asked now among what was ever asked, and what all accounts have now among the times of the audit.
func (s *scene) send(t *testing.T) {
	if n, phase := s.chart.Audit(); phase != chart.Idle {
		s.views = noted(s.views, view{n, phase}, viewsRise)
		if phase == chart.Collect {
			s.times = noted(s.times, fmt.Sprint(n, " ", s.has()), strings.Compare)
		}
	}
	for _, v := range s.views {
		// Of a view that it does not have, another auditor asks, so that this one does not forget.
		a := New(2)
		if s.auditor.n == v.n && s.auditor.phase == v.phase {
			a = &s.auditor
		}
		for x := range a.Asks(v.n, v.phase) {
			s.ask(t, x)
		}
	}
	for i, x := range s.shards {
		for a := range txn.Asks(i+1, 2, x.Pending()) {
			s.ask(t, a)
		}
	}
}

func (s *scene) ask(t *testing.T, a txn.Ask) {
	b, why := txn.Bytes(a)
	a, whyNot := txn.Parse(b)
	if why != api.OK || whyNot != api.OK {
		t.Fatalf("%+v: Bytes %d, Parse %d", a, why, whyNot)
	}
	s.asks = noted(s.asks, answer{ask: a, bytes: string(b)}, answersRise)
}

// arrive lets an ask arrive; what is answered is among what was ever answered.
func (s *scene) arrive(t *testing.T, a answer) {
	b, why := txn.PutResult(s.shards[a.ask.Group-1].Do(a.ask.Cmd))
	r, whyNot := txn.GetResult(b)
	if why != api.OK || whyNot != api.OK {
		t.Fatalf("%+v: PutResult %d, GetResult %d", a, why, whyNot)
	}
	s.answers = noted(s.answers, answer{a.ask, r, a.bytes + "|" + string(b)}, answersRise)
}

// ofAudit tells whether an ask is one of an audit.
func ofAudit(x txn.Ask) bool {
	return x.Cmd.Kind == shard.CmdFreeze || x.Cmd.Kind == shard.CmdThaw
}

// learn lets an answer arrive, at the shard that has the transfer, or at the auditor, which knows the audit so.
func (s *scene) learn(a answer, v view) {
	if ofAudit(a.ask) {
		if c, is := s.auditor.Told(v.n, v.phase, a.ask, a.result); is {
			s.steps = noted(s.steps, c, stepsRise)
		}
	} else if c, is := txn.Next(a.ask, a.result); is {
		s.shards[2-a.ask.Group].Do(c)
	}
}

// now is the audit as the chart has it.
func (s *scene) now() view {
	n, phase := s.chart.Audit()
	return view{n, phase}
}

// busy tells whether there is an audit or a transfer, or anything is held or frozen.
func (s *scene) busy() bool {
	for _, x := range s.shards {
		if x.Busy() != 0 || len(x.Pending()) != 0 {
			return true
		}
	}
	return s.now() != view{}
}

// wantAtOneTime asks that what is told of an audit, to this auditor or to any other one, is what all accounts had at one time.
func (s scene) wantAtOneTime(t *testing.T) {
	t.Helper()
	if rows, is := s.auditor.Rows(); is && !slices.Contains(s.times, fmt.Sprint(s.auditor.n, " ", textOf(rows))) {
		t.Fatalf("the audit %d told %+v; there was %q", s.auditor.n, rows, s.times)
	}
	for _, a := range s.answers {
		for _, b := range s.answers {
			if !a.frozen() || !b.frozen() || a.ask.Group >= b.ask.Group || a.ask.Cmd.Epoch != b.ask.Cmd.Epoch {
				continue
			}
			if rows := Merge(a.result.Reply.Rows, b.result.Reply.Rows); !slices.Contains(s.times, fmt.Sprint(a.ask.Cmd.Epoch, " ", textOf(rows))) {
				t.Fatalf("the audit %d would tell %+v; there was %q", a.ask.Cmd.Epoch, rows, s.times)
			}
		}
	}
}

// frozen tells whether an answer is that of a shard that is frozen, and has told its rows.
func (a answer) frozen() bool {
	return a.ask.Cmd.Kind == shard.CmdFreeze && a.result.Why == api.OK
}

// wantSoon asks that the audit ends behind a few rounds, when all arrives that was asked and answered, and that all goes on then; so it does, too, if what was to follow is lost, and a new auditor begins again.
func (s scene) wantSoon(t *testing.T, anew bool) {
	t.Helper()
	s = s.copy()
	if anew {
		s.auditor, s.steps = *New(2), nil
	}
	for round := 0; s.busy(); round++ {
		if round == 6 {
			t.Fatalf("it goes on: %+v, Busy %d, %d", s.now(), s.shards[0].Busy(), s.shards[1].Busy())
		}
		s.send(t)
		for _, a := range s.asks {
			s.arrive(t, a)
		}
		for _, a := range s.answers {
			s.learn(a, s.now())
		}
		for _, c := range s.steps {
			doStep(t, s.chart, s.shards[:], c)
		}
	}
	s.wantAtOneTime(t)
	for i, name := range []string{first, second} {
		if r := s.shards[i].Do(op(deposit(name, 1, "anew"))); r.Reply.Why != api.OK {
			t.Fatalf("behind the audit %s is told %+v", name, r)
		}
	}
}

// next is all scenes that can follow at once.
func (s scene) next(t *testing.T, happenings []happening) []scene {
	var l []scene
	then := func(do func(n *scene)) {
		n := s.copy()
		do(&n)
		n.send(t)
		l = append(l, n)
	}
	for _, a := range s.asks {
		then(func(n *scene) { n.arrive(t, a) })
	}
	for _, a := range s.answers {
		for _, v := range s.known(a.ask) {
			then(func(n *scene) { n.learn(a, v) })
		}
	}
	for _, c := range s.steps {
		then(func(n *scene) { doStep(t, n.chart, n.shards[:], c) })
	}
	for _, h := range append(happenings, begin) {
		then(h)
	}
	if s.late {
		then(func(n *scene) { n.auditor = *New(2) })
	}
	return l
}

// known is how whoever is told of an ask may know the audit. One of another number makes the auditor forget, which it may do anyway.
func (s *scene) known(x txn.Ask) []view {
	if !s.late || !ofAudit(x) {
		return []view{s.now()}
	}
	return slices.DeleteFunc(slices.Clone(s.views), func(v view) bool { return v.n != x.Cmd.Epoch })
}

// follow goes through all that can follow a scene, and answers how many scenes there are, and in how many all audits have ended.
func follow(t *testing.T, start scene, happenings ...happening) (int, int) {
	start.send(t)
	seen := map[[32]byte]int{start.key(): 1}
	work := []scene{start}
	ends := 0
	for len(work) > 0 {
		s := work[len(work)-1]
		work = work[:len(work)-1]
		s.wantAtOneTime(t)
		s.wantSoon(t, false)
		s.wantSoon(t, true)
		if s.most == 0 && s.now() == (view{}) {
			ends++
		}
		for _, n := range s.next(t, happenings) {
			if k := n.key(); seen[k] == 0 {
				seen[k] = 1
				work = append(work, n)
			}
		}
	}
	return len(seen), ends
}

// P17.4, P4, P6: of one audit, and of two, all that can happen: whatever asks and answers arrive, when and how often, whoever forgets, while operations and a transfer go on.
func TestAtOneTime(t *testing.T) {
	t.Parallel()
	for _, c := range []struct {
		what       string
		audits     int
		late       bool
		happenings []happening
	}{
		{"nothing else", 2, true, nil},
		{"deposits", 1, true, []happening{calls(deposit(first, 1, "e")), calls(deposit(second, 2, "e"))}},
		{"a transfer that is asked for again", 1, false, []happening{sends(transfer(first, second, 3, "t"), 2)}},
		{"a transfer to nobody", 1, false, []happening{sends(transfer(second, nobody, 3, "t"), 1)}},
		{"a transfer and a deposit", 1, false, []happening{sends(transfer(second, first, 3, "t"), 1), calls(deposit(first, 2, "e"))}},
	} {
		t.Run(c.what, func(t *testing.T) {
			t.Parallel()
			if n, ends := follow(t, newScene(t, c.audits, c.late), c.happenings...); n < 1000 || ends < 200 {
				t.Errorf("%d scenes, in %d of which all audits have ended", n, ends)
			}
		})
	}
}
