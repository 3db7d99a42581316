package raft_test

import (
	"bytes"
	"math"
	"slices"
	"testing"

	"tollgate/api"
	"tollgate/member"
	"tollgate/raft"
	"tollgate/snap"
)

// world is cores beside their models, what disks would keep of them, and the messages between them.
type world struct {
	t *testing.T
	chance
	nodes   int
	cores   [api.MaxNode + 1]*raft.Core
	models  [api.MaxNode + 1]*model
	kept    [api.MaxNode + 1]api.Begin
	commits [api.MaxNode + 1]int
	under   []api.Msg
	leaders map[int]int       // by term
	done    map[int]agreement // by index
	most    int               // the greatest index that was ever committed
	asked   map[int]int       // by a read's tag: what was committed when it was asked
	passed  int
	tags    int
	strange bool // messages may be anybody's
}

// agreement is what is committed at an index, and the least term of a core that has said so.
type agreement struct {
	entry string
	term  int
}

func newWorld(t *testing.T, seed, nodes int, m api.Members) *world {
	w := &world{t: t, chance: chance(seed), nodes: nodes, leaders: map[int]int{}, done: map[int]agreement{}, asked: map[int]int{}}
	for n := 1; n <= nodes; n++ {
		w.kept[n] = api.Begin{Id: n, Members: m}
		w.open(n)
	}
	return w
}

func (w *world) aDraw() int {
	draws := []int{0, -1, math.MaxInt, math.MinInt, 9, 10, w.below(100), w.below(100), w.below(100) - 200}
	return draws[w.below(len(draws))]
}

// open: a core begins, at first and behind a fall, with what its disk keeps.
func (w *world) open(n int) {
	w.kept[n].Draw = w.aDraw()
	w.cores[n] = core(w.t, w.kept[n])
	w.models[n] = newModel(w.kept[n])
	w.commits[n] = w.kept[n].Base.Index
}

// spoil changes what lists hold, with the room behind them.
func spoil(l []api.Entry) {
	for _, e := range l[:cap(l)] {
		spoilBytes(e.Data)
	}
	clear(l[:cap(l)])
}

func spoilBytes(b []byte) {
	for i := range b[:cap(b)] {
		b[:cap(b)][i] ^= 0x55
	}
}

func cloned(l []api.Entry) []api.Entry {
	l = slices.Clone(l)
	for i := range l {
		l[i].Data = bytes.Clone(l[i].Data)
	}
	return l
}

func clonedMsg(m api.Msg) api.Msg {
	m.Entries = cloned(m.Entries)
	m.Data = bytes.Clone(m.Data)
	return m
}

// told: what a step of a core told is what its model tells; all lists of it are spoiled behind it (P3).
func (w *world) told(n int, what string, got, want api.Output) {
	w.t.Helper()
	if shown(got) != shown(want) {
		w.t.Fatalf("node %d, %s:\n%s\nwant\n%s", n, what, shown(got), shown(want))
	}
	w.keep(n, got)
	for _, m := range got.Msgs {
		if len(w.under) < 60 {
			w.under = append(w.under, clonedMsg(m))
		}
	}
	for _, r := range got.Reads {
		w.readPasses(n, r)
	}
	w.spoilOutput(got)
	w.look(n, what)
}

func (w *world) spoilOutput(o api.Output) {
	spoil(o.Entries)
	for _, m := range o.Msgs {
		spoil(m.Entries)
		spoilBytes(m.Data)
	}
	clear(o.Msgs)
	clear(o.Reads)
	spoilBytes(o.Snap)
}

// keep does what a disk would (P11.8): the entries told, one behind the other, are the log.
func (w *world) keep(n int, o api.Output) {
	k := &w.kept[n]
	if o.Hard.Term < k.Hard.Term || o.Hard.Term == k.Hard.Term && k.Hard.Vote != 0 && o.Hard.Vote != k.Hard.Vote {
		w.t.Fatalf("node %d: its Hard goes from %v to %v", n, k.Hard, o.Hard)
	}
	k.Hard = o.Hard
	if len(o.Snap) > 0 {
		s, e := snap.Get(o.Snap)
		if e != api.OK {
			w.t.Fatal("no snapshot")
		}
		k.Base, k.Members, k.Snap, k.Entries = s.Mark, s.Members, bytes.Clone(o.Snap), all(w.cores[n])
	}
	if len(o.Entries) > 0 {
		k.Entries = append(k.Entries[:o.Entries[0].Index-k.Base.Index-1], cloned(o.Entries)...)
	}
}

func (w *world) readPasses(n int, r api.Read) {
	w.passed++
	if !w.strange && r.Index < w.asked[r.Tag] {
		w.t.Fatalf("node %d: read %d passes with index %d, and %d was committed when it was asked", n, r.Tag, r.Index, w.asked[r.Tag])
	}
}

// look holds a core against its model and its disk, and all cores to what follows (P11.6, P11.7).
func (w *world) look(n int, what string) {
	w.t.Helper()
	c, m := w.cores[n], w.models[n]
	v := c.View()
	log := all(c)
	if shown(v) != shown(m.view()) || shown(log) != shown(m.entries(0, m.last())) {
		w.t.Fatalf("node %d, behind %s:\n%s %s\nwant\n%s %s", n, what, shown(v), shown(log), shown(m.view()), shown(m.entries(0, m.last())))
	}
	if k := w.kept[n]; shown(log) != shown(k.Entries) || v.Base != k.Base || v.Hard != k.Hard {
		w.t.Fatalf("node %d, behind %s: it is %s %s, and told %s", n, what, shown(v), shown(log), shown(k))
	}
	if v.Commit < w.commits[n] || v.Commit > v.Last || v.Commit < v.Base.Index {
		w.t.Fatalf("node %d, behind %s: its commit goes from %d to %s", n, what, w.commits[n], shown(v))
	}
	w.commits[n] = v.Commit
	if !w.strange {
		w.agree(n, v, log)
	}
}

func (w *world) agree(n int, v api.View, log []api.Entry) {
	for _, e := range log[:v.Commit-v.Base.Index] {
		a, there := w.done[e.Index]
		if there && a.entry != shown(e) {
			w.t.Fatalf("node %d commits %s at %d, another one %s", n, shown(e), e.Index, a.entry)
		}
		if !there || v.Hard.Term < a.term {
			w.done[e.Index] = agreement{shown(e), v.Hard.Term}
		}
		w.most = max(w.most, e.Index)
	}
	if v.Role == api.Leader {
		if other, there := w.leaders[v.Hard.Term]; there && other != n {
			w.t.Fatalf("%d and %d lead in term %d", other, n, v.Hard.Term)
		}
		w.leaders[v.Hard.Term] = n
		w.hasAll(n, v, log)
	}
}

func (w *world) hasAll(n int, v api.View, log []api.Entry) {
	for index, a := range w.done {
		if a.term >= v.Hard.Term || index <= v.Base.Index {
			continue
		}
		if index > v.Last || shown(log[index-v.Base.Index-1]) != a.entry {
			w.t.Fatalf("node %d leads in term %d, and has not what was committed at %d in term %d", n, v.Hard.Term, index, a.term)
		}
	}
}

func (w *world) node() int { return 1 + w.below(w.nodes) }

func (w *world) tick(n int) {
	draw := w.aDraw()
	w.told(n, "Tick", w.cores[n].Tick(draw), w.models[n].tick(draw))
}

// give hands a message to a core, and spoils it behind that.
func (w *world) give(n int, m api.Msg) {
	draw := w.aDraw()
	handed := clonedMsg(m)
	got := w.cores[n].Take(handed, draw)
	spoil(handed.Entries)
	spoilBytes(handed.Data)
	w.told(n, "Take of "+shown(m), got, w.models[n].take(m, draw))
}

// deliver: out of turn, perhaps once more later, perhaps never.
func (w *world) deliver(loss, double int) {
	if len(w.under) == 0 {
		return
	}
	at := 0
	if w.oneOf(3) {
		at = w.below(len(w.under))
	}
	m := w.under[at]
	if !w.oneOf(double) {
		w.under = slices.Delete(w.under, at, at+1)
	}
	if m.To <= w.nodes && !w.oneOf(loss) {
		w.give(m.To, m)
	}
}

func (w *world) propose(n int) {
	data := bytes.Repeat([]byte{byte(w.below(256))}, w.below(4))
	handed := bytes.Clone(data)
	got := w.cores[n].Propose(handed)
	spoilBytes(handed)
	w.told(n, "Propose", got, w.models[n].propose(data))
}

func (w *world) change(n int) {
	x := api.Change{Do: api.Do(w.below(6)), Node: w.below(w.nodes + 3)}
	w.told(n, "Change", w.cores[n].Change(x), w.models[n].change(x))
}

func (w *world) read(n int) {
	w.tags++
	w.asked[w.tags] = w.most
	w.told(n, "Read", w.cores[n].Read(w.tags), w.models[n].read(w.tags))
}

// compact: by a snapshot that is right, or by one that is a little beside it.
func (w *world) compact(n int) {
	m := w.models[n]
	index := m.base + w.below(m.commit-m.base+2)
	s := api.Snap{Mark: api.Mark{Index: max(index, 1), Term: 1}, Members: m.baseWho}
	if index <= m.last() {
		s.Mark.Term = max(m.at(index), 1)
		s.Members = m.whoUpTo(index)
	}
	if w.oneOf(6) {
		s.Mark.Term++
	}
	if w.oneOf(6) {
		s.Members = voters(1, 9)
	}
	b, e := snap.Put(s)
	if e != api.OK {
		w.t.Fatal("no snapshot")
	}
	handed := bytes.Clone(b)
	got := w.cores[n].Compact(index, handed)
	spoilBytes(handed)
	if want := m.compact(index, b); got != want {
		w.t.Fatalf("node %d: Compact of %d: %d; want %d", n, index, got, want)
	}
	if got == api.OK {
		k := &w.kept[n]
		k.Entries = k.Entries[index-k.Base.Index:]
		k.Base, k.Members, k.Snap = s.Mark, s.Members, b
	}
	w.look(n, "Compact")
}

// part: a fork goes on in the core's place, and the other one goes astray, which must not be seen (P4).
func (w *world) part(n int) {
	stray := w.cores[n]
	w.cores[n] = stray.Fork()
	if w.oneOf(2) {
		stray, w.cores[n] = w.cores[n], stray
	}
	for range 3 {
		stray.Take(w.strangeMsg(n), w.aDraw())
		stray.Propose([]byte("stray"))
		stray.Read(-1)
		stray.Change(api.Change{Do: api.Add, Node: api.MaxNode})
	}
	for range w.below(2 * api.Quiet) {
		stray.Tick(0)
	}
	w.look(n, "Fork")
}

func (w *world) step(changes bool) {
	n := w.node()
	switch k := w.below(100); {
	case k < 30:
		w.tick(n)
	case k < 78:
		w.deliver(20, 20)
	case k < 86:
		w.propose(n)
	case k < 90 && changes:
		w.change(n)
	case k < 94:
		w.read(n)
	case k < 97:
		w.compact(n)
	case k < 98:
		w.part(n)
	case k < 99:
		w.open(n)
	default:
		w.under = nil
	}
}

// calm: nothing is lost any more and all clocks tick alike. How many rounds it takes until all have a new command?
func (w *world) calm(most int) bool {
	w.under = nil
	for range most {
		for n := 1; n <= w.nodes; n++ {
			w.tick(n)
		}
		for len(w.under) > 0 {
			m := w.under[0]
			w.under = w.under[1:]
			if m.To <= w.nodes {
				w.give(m.To, m)
			}
		}
		for n := 1; n <= w.nodes; n++ {
			if v := w.cores[n].View(); v.Role == api.Leader && w.everyCommit(v.Last) {
				return true
			}
		}
		for n := 1; n <= w.nodes; n++ {
			w.compactAll(n)
		}
	}
	return false
}

func (w *world) everyCommit(index int) bool {
	for n := 1; n <= w.nodes; n++ {
		if w.cores[n].View().Commit != index {
			return false
		}
	}
	return true
}

func (w *world) compactAll(n int) {
	v := w.cores[n].View()
	if v.Commit == v.Base.Index {
		return
	}
	m := w.models[n]
	b, _ := snap.Put(api.Snap{Mark: api.Mark{Index: v.Commit, Term: m.at(v.Commit)}, Members: m.whoUpTo(v.Commit)})
	if e := w.cores[n].Compact(v.Commit, b); e != api.OK {
		w.t.Fatalf("Compact: %d", e)
	}
	m.compact(v.Commit, b)
	k := &w.kept[n]
	k.Entries = k.Entries[v.Commit-k.Base.Index:]
	k.Base, k.Members, k.Snap = m.view().Base, m.baseWho, b
}

// P11.2 to P11.9, E2, E4, P3, P4: cores with messages lost, doubled and out of turn, falls, changes of members and snapshots, each beside its model.
func TestScripts(t *testing.T) {
	passed, most, leaders := 0, 0, 0
	for seed := range 60 {
		nodes := 1 + seed%6
		m := voters(1, 2, 3, 4, 5, 6)
		m.Voters = m.Voters[:1+seed/6%nodes]
		if seed%2 == 0 && len(m.Voters) < nodes {
			m.Learners = []int{nodes}
		}
		w := newWorld(t, seed, nodes, m)
		for range 1500 {
			w.step(true)
		}
		passed += w.passed
		most += w.most
		leaders += len(w.leaders)
	}
	t.Logf("%d reads passed, %d entries committed, %d leaders", passed, most, leaders)
	if passed < 400 || most < 800 || leaders < 200 {
		t.Errorf("the scripts come to nothing: %d reads passed, %d entries committed, %d leaders", passed, most, leaders)
	}
}

// E6: behind anything but changes of members a leader is found, and what it has is committed everywhere.
func TestOn(t *testing.T) {
	for seed := range 60 {
		nodes := 1 + seed%5
		m := voters(1, 2, 3, 4, 5)
		m.Voters = m.Voters[:nodes]
		w := newWorld(t, 1000+seed, nodes, m)
		for range 600 {
			w.step(false)
		}
		if !w.calm(600) {
			t.Fatalf("seed %d: no leader is found, or not all have what it has", seed)
		}
	}
}

// strangeMsg is one that no core would send, perhaps; some are right.
func (w *world) strangeMsg(n int) api.Msg {
	v := w.cores[n].View()
	near := func(x int) int { return max(x+w.below(5)-2, 0) }
	m := api.Msg{Kind: api.MsgKind(1 + w.below(7)), From: 1 + w.below(api.MaxNode), To: n, Term: near(v.Hard.Term), Index: near(v.Last), Commit: near(v.Commit), Hint: near(v.Last), Round: w.below(6), Ok: w.oneOf(2)}
	if w.oneOf(3) {
		m.Index = near(v.Base.Index)
	}
	if w.oneOf(4) {
		m.Index = near(v.Commit)
	}
	m.LogTerm = w.models[n].termNear(m.Index)
	if w.oneOf(5) {
		m.LogTerm = near(m.LogTerm)
	}
	term := m.LogTerm
	for i := range w.below(api.MaxBatch + 1) {
		if at := w.models[n].termNear(m.Index + 1 + i); !w.oneOf(6) {
			term = max(term, at)
		}
		term = max(term, 1)
		e := entry(term, m.Index+1+i)
		if w.oneOf(8) {
			b, _ := member.PutChange(api.Change{Do: api.Do(1 + w.below(4)), Node: 1 + w.below(api.MaxNode)})
			e = api.Entry{Kind: api.Turn, Term: term, Index: e.Index, Data: b}
		}
		m.Entries = append(m.Entries, e)
		m.Term = max(m.Term, term)
	}
	if m.Kind == api.Install {
		m.Data, _ = snap.Put(api.Snap{Mark: api.Mark{Index: m.Index, Term: m.LogTerm}, Members: voters(1+w.below(3), 4+w.below(3))})
		m.Entries = nil
	}
	if w.oneOf(12) {
		w.spoilMsg(&m)
	}
	return m
}

// spoilMsg makes, mostly, one that is not right.
func (w *world) spoilMsg(m *api.Msg) {
	switch w.below(8) {
	case 0:
		m.To = w.below(11)
	case 1:
		m.From = m.To
	case 2:
		m.Kind = api.MsgKind(w.below(10) - 1)
	case 3:
		m.Commit = api.MaxNum/2 + w.below(2)
	case 4:
		m.Round = w.below(3) - 1
	case 5:
		m.Hint = api.MaxNum + w.below(2)
	case 6:
		m.Entries = append(m.Entries, entry(max(m.Term, 1), m.Index+w.below(9)))
	case 7:
		m.Data = append(m.Data, 0)
	}
}

// termNear is the term at an index, or at the nearest one that there is.
func (m *model) termNear(index int) int { return m.at(min(max(index, m.base), m.last())) }

// P1, P11.4, P11.6: messages that no core would have sent.
func TestStrangeScripts(t *testing.T) {
	for seed := range 60 {
		m := voters(1, 2, 3, 4, 5)
		m.Voters = m.Voters[:1+seed%5]
		w := newWorld(t, 3000+seed, 2, m)
		w.strange = true
		for range 1000 {
			n := w.node()
			switch {
			case w.oneOf(2):
				w.give(n, w.strangeMsg(n))
			case w.oneOf(3):
				w.tick(n)
			default:
				w.strangeStep(n)
			}
		}
	}
}

func (w *world) strangeStep(n int) {
	switch w.below(6) {
	case 0:
		w.propose(n)
	case 1:
		w.change(n)
	case 2:
		w.read(n)
	case 3:
		w.compact(n)
	case 4:
		w.part(n)
	default:
		w.yes(n)
	}
}

// yes lets a core that asks or stands have its way.
func (w *world) yes(n int) {
	v := w.cores[n].View()
	for _, from := range v.Members.Voters {
		if from == n {
			continue
		}
		switch v.Role {
		case api.Asker:
			w.give(n, api.Msg{Kind: api.SayPre, From: from, To: n, Term: v.Hard.Term + 1, Ok: true})
		case api.Candidate:
			w.give(n, api.Msg{Kind: api.SayVote, From: from, To: n, Term: v.Hard.Term, Ok: true})
		}
	}
}
