package raft_test

import (
	"bytes"
	"math"
	"testing"

	"tollgate/api"
	"tollgate/raft"
)

// P11.4: messages that are not right, or not for this core, of each kind: ErrArg, the core's Hard, and nothing else.
func TestTakeWrong(t *testing.T) {
	good := api.Msg{From: 2, To: 1, Term: 9, Index: 1, LogTerm: 2, Data: snapOf(t, 1, 2, three)}
	wrong := map[string]func(m *api.Msg){
		"to another core":       func(m *api.Msg) { m.To = 2; m.From = 3 },
		"to nobody":             func(m *api.Msg) { m.To = 0 },
		"from itself":           func(m *api.Msg) { m.From = 1 },
		"from nobody":           func(m *api.Msg) { m.From = 0 },
		"from 10":               func(m *api.Msg) { m.From = api.MaxNode + 1 },
		"Term":                  func(m *api.Msg) { m.Term = api.MaxNum/2 + 1 },
		"Index":                 func(m *api.Msg) { m.Index = api.MaxNum/2 + 1; m.Data = snapOf(t, m.Index, 2, three) },
		"LogTerm":               func(m *api.Msg) { m.LogTerm = api.MaxNum/2 + 1; m.Data = snapOf(t, 1, m.LogTerm, three) },
		"Commit":                func(m *api.Msg) { m.Commit = api.MaxNum/2 + 1 },
		"Term below 0":          func(m *api.Msg) { m.Term = -1 },
		"Index below 0":         func(m *api.Msg) { m.Index = -1 },
		"LogTerm below 0":       func(m *api.Msg) { m.LogTerm = math.MinInt },
		"Commit below 0":        func(m *api.Msg) { m.Commit = -1 },
		"Hint":                  func(m *api.Msg) { m.Hint = api.MaxNum + 1 },
		"Round":                 func(m *api.Msg) { m.Round = api.MaxNum + 1 },
		"Round below 0":         func(m *api.Msg) { m.Round = -1 },
		"too many entries":      func(m *api.Msg) { m.Entries = rowOf(2, 2, 2, 2, 2, 2, 2, 2, 2, 2) },
		"an entry of no kind":   func(m *api.Msg) { m.Entries = rowOf(2, 2); m.Entries[0].Kind = 0 },
		"an entry's great Data": func(m *api.Msg) { m.Entries = rowOf(2, 2); m.Entries[0].Data = make([]byte, api.MaxData+1) },
		"too much Data":         func(m *api.Msg) { m.Data = make([]byte, api.MaxSnap+1) },
	}
	for name, c := range roles(t) {
		for kind := api.AskPre; kind <= api.Say; kind++ {
			for what, spoil := range wrong {
				m := good
				m.Kind = kind
				spoil(&m)
				wantOnly(t, name+": "+what, c, api.ErrArg, func() api.Output { return c.Take(m, 5) })
			}
		}
		for _, kind := range []api.MsgKind{api.NoMsg, -1, api.Say + 1, math.MaxInt, math.MinInt} {
			m := good
			m.Kind = kind
			wantOnly(t, name+": a kind", c, api.ErrArg, func() api.Output { return c.Take(m, 5) })
		}
	}
}

// P11.4: Term, Index, LogTerm and Commit at MaxNum / 2, Hint and Round at MaxNum, a full batch: these may be.
func TestTakeGreatNumbers(t *testing.T) {
	const half = api.MaxNum / 2
	for kind := api.AskPre; kind <= api.Say; kind++ {
		for name, c := range roles(t) {
			m := api.Msg{Kind: kind, From: 2, To: 1, Term: half, Index: half, LogTerm: half, Commit: half, Hint: api.MaxNum, Round: api.MaxNum, Ok: true}
			for i := range api.MaxBatch {
				m.Entries = append(m.Entries, entry(half, half+1+i))
			}
			if kind == api.Install {
				m.Data = snapOf(t, half, half, three)
			}
			if o := c.Take(m, 5); o.E != api.OK {
				t.Errorf("%s: a message of kind %d: error %d", name, kind, o.E)
			}
		}
	}
}

// P11.4: an Append whose entries do not go on, whose terms fall or are above its own.
func TestAppendWrong(t *testing.T) {
	c := core(t, begin(three, api.Hard{Term: 1}, 1))
	m := api.Msg{Kind: api.Append, From: 2, To: 1, Term: 5, Index: 1, LogTerm: 1}
	for what, l := range map[string][]api.Entry{
		"Index itself":        rowOf(1, 1),
		"a gap":               rowOf(3, 1),
		"a gap within":        {entry(1, 2), entry(1, 4)},
		"doubled":             {entry(1, 2), entry(1, 2)},
		"terms fall":          rowOf(2, 2, 3, 2),
		"above Term":          rowOf(2, 6),
		"at last above Term":  rowOf(2, 1, 5, 6),
		"an index far behind": rowOf(api.MaxNum, 1),
	} {
		m := m
		m.Entries = l
		wantOnly(t, what, c, api.ErrArg, func() api.Output { return c.Take(m, 5) })
	}
	m.LogTerm = 3
	m.Entries = rowOf(2, 2, 4)
	wantOnly(t, "below LogTerm", c, api.ErrArg, func() api.Output { return c.Take(m, 5) })
	for _, kind := range []api.MsgKind{api.AskPre, api.SayPre, api.AskVote, api.SayVote, api.Say} {
		m := m
		m.Kind = kind
		if o := c.Fork().Take(m, 5); o.E != api.OK {
			t.Errorf("entries of a message of kind %d: error %d", kind, o.E)
		}
	}
	m.Entries = nil
	m.LogTerm = 6
	want(t, "LogTerm above Term, without entries", c.Take(m, 5).E, api.OK)
}

// P11.4: an Install whose Data is not a snapshot's of just its mark, or whose LogTerm is above Term.
func TestInstallWrong(t *testing.T) {
	c := core(t, begin(three, api.Hard{Term: 1}, 1))
	good := api.Msg{Kind: api.Install, From: 2, To: 1, Term: 5, Index: 9, LogTerm: 4, Data: snapOf(t, 9, 4, five)}
	for what, spoil := range map[string]func(m *api.Msg){
		"no Data":            func(m *api.Msg) { m.Data = nil },
		"empty Data":         func(m *api.Msg) { m.Data = []byte{} },
		"cut":                func(m *api.Msg) { m.Data = m.Data[:len(m.Data)-1] },
		"longer":             func(m *api.Msg) { m.Data = append(bytes.Clone(m.Data), 0) },
		"Index below":        func(m *api.Msg) { m.Index = 8 },
		"Index above":        func(m *api.Msg) { m.Index = 10 },
		"LogTerm below":      func(m *api.Msg) { m.LogTerm = 3 },
		"LogTerm above":      func(m *api.Msg) { m.LogTerm = 5 },
		"LogTerm above Term": func(m *api.Msg) { m.LogTerm = 6; m.Data = snapOf(t, 9, 6, five) },
		"a changed byte":     func(m *api.Msg) { m.Data = bytes.Clone(m.Data); m.Data[len(m.Data)-1] ^= 1 },
	} {
		m := good
		spoil(&m)
		wantOnly(t, what, c, api.ErrArg, func() api.Output { return c.Take(m, 5) })
	}
	good.LogTerm, good.Data = 5, snapOf(t, 9, 5, five)
	want(t, "LogTerm is Term", c.Take(good, 5).E, api.OK)
}

// appended is a try at core 1 of term 6, whose Commit is 4 and whose log is of these terms from index 3 on, behind Base 2 of term 1: 1 1 3 3 3 5.
type appended struct {
	what           string
	index, logTerm int
	commit         int
	entries        []api.Entry
	told           []api.Entry // what is added
	no             int         // 0, or the hint
	ok             int         // the index that is told back
	commits        int
}

func sample(t *testing.T) *raft.Core {
	t.Helper()
	c := core(t, based(t, three, api.Hard{Term: 6}, api.Mark{Index: 2, Term: 1}, 1, 1, 3, 3, 3, 5))
	o := c.Take(api.Msg{Kind: api.Append, From: 3, To: 1, Term: 6, Index: 4, LogTerm: 1, Commit: 9}, 0)
	want(t, "the sample", o, api.Output{Hard: api.Hard{Term: 6}, Msgs: []api.Msg{{Kind: api.Say, From: 1, To: 3, Term: 6, Ok: true, Index: 4}}})
	want(t, "the sample", c.View(), api.View{Leader: 3, Hard: api.Hard{Term: 6}, Base: api.Mark{Index: 2, Term: 1}, Last: 8, Commit: 4, Members: three})
	return c
}

func (x appended) try(t *testing.T) {
	t.Helper()
	c := sample(t)
	log := all(c)
	a := api.Msg{Kind: api.Say, From: 1, To: 2, Term: 7, Round: 12, Hint: x.no}
	commits := 4
	if x.no == 0 {
		a.Ok, a.Index = true, x.ok
		commits = x.commits
	}
	if len(x.told) > 0 {
		log = append(log[:x.told[0].Index-3], x.told...)
	}
	got := c.Take(api.Msg{Kind: api.Append, From: 2, To: 1, Term: 7, Index: x.index, LogTerm: x.logTerm, Commit: x.commit, Round: 12, Entries: x.entries}, 0)
	want(t, x.what, got, api.Output{Hard: api.Hard{Term: 7}, Entries: x.told, Msgs: []api.Msg{a}})
	want(t, x.what, c.View(), api.View{Leader: 2, Hard: api.Hard{Term: 7}, Base: api.Mark{Index: 2, Term: 1}, Last: 2 + len(log), Commit: commits, Members: three})
	want(t, x.what, all(c), log)
}

// P11.4: Append at a place that the log has not: the hint.
func TestAppendHint(t *testing.T) {
	for _, x := range []appended{
		{what: "just behind Last", index: 9, logTerm: 5, no: 9},
		{what: "far behind Last", index: api.MaxNum / 2, logTerm: 5, commit: 9, no: 9},
		{what: "behind Last with entries", index: 9, logTerm: 5, entries: rowOf(10, 6), no: 9},
		{what: "at Last", index: 8, logTerm: 4, no: 8},
		{what: "at Last, later", index: 8, logTerm: 6, no: 8},
		{what: "a whole term", index: 7, logTerm: 4, no: 5},
		{what: "within a term", index: 6, logTerm: 2, no: 5},
		{what: "the first one of a term", index: 5, logTerm: 1, entries: rowOf(6, 3), no: 5},
		{what: "at Commit", index: 4, logTerm: 2, no: 4},
		{what: "below Commit", index: 3, logTerm: 2, no: 3},
	} {
		x.try(t)
	}
	c := core(t, begin(three, api.Hard{Term: 2}, 2, 2, 2))
	ask := func(index int) int {
		return c.Take(api.Msg{Kind: api.Append, From: 2, To: 1, Term: 2, Index: index, LogTerm: 1}, 0).Msgs[0].Hint
	}
	want(t, "a term that begins the log", ask(3), 1)
	c.Take(api.Msg{Kind: api.Append, From: 2, To: 1, Term: 2, Index: 1, LogTerm: 2, Commit: 1}, 0)
	want(t, "not below Commit", ask(3), 2)
	c = core(t, begin(three, api.Hard{Term: 2}))
	want(t, "an empty log", ask(1), 1)
}

// P11.4: Append at a place that the log has.
func TestAppend(t *testing.T) {
	for _, x := range []appended{
		{what: "nothing at Last", index: 8, logTerm: 5, ok: 8, commits: 4},
		{what: "a commit", index: 8, logTerm: 5, commit: 7, ok: 8, commits: 7},
		{what: "all is committed", index: 8, logTerm: 5, commit: 8, ok: 8, commits: 8},
		{what: "no more than is told", index: 6, logTerm: 3, commit: 8, ok: 6, commits: 6},
		{what: "a commit that falls", index: 8, logTerm: 5, commit: 3, ok: 8, commits: 4},
		{what: "behind Last", index: 8, logTerm: 5, commit: 9, entries: rowOf(9, 5, 7), told: rowOf(9, 5, 7), ok: 10, commits: 9},
		{what: "a full batch", index: 8, logTerm: 5, commit: 99, entries: rowOf(9, 6, 6, 6, 6, 6, 6, 6, 6), told: rowOf(9, 6, 6, 6, 6, 6, 6, 6, 6), ok: 16, commits: 16},
		{what: "what it has", index: 4, logTerm: 1, entries: rowOf(5, 3, 3), ok: 6, commits: 4},
		{what: "what it has, and a commit of it", index: 4, logTerm: 1, commit: 8, entries: rowOf(5, 3, 3), ok: 6, commits: 6},
		{what: "what it has and more", index: 6, logTerm: 3, entries: rowOf(7, 3, 5, 5), told: rowOf(9, 5), ok: 9, commits: 4},
		{what: "another term", index: 5, logTerm: 3, entries: rowOf(6, 3, 4), told: rowOf(7, 4), ok: 7, commits: 4},
		{what: "another term, and what is behind it too", index: 5, logTerm: 3, commit: 8, entries: rowOf(6, 4, 5, 5), told: rowOf(6, 4, 5, 5), ok: 8, commits: 8},
		{what: "just behind Commit", index: 4, logTerm: 1, entries: rowOf(5, 2), told: rowOf(5, 2), ok: 5, commits: 4},
		{what: "from below Commit", index: 3, logTerm: 1, entries: rowOf(4, 1, 2), told: rowOf(5, 2), ok: 5, commits: 4},
		{what: "below Commit", index: 3, logTerm: 1, entries: rowOf(4, 1), ok: 4, commits: 4},
		{what: "nothing below Commit", index: 3, logTerm: 1, ok: 3, commits: 4},
		{what: "at Base", index: 2, logTerm: 1, entries: rowOf(3, 1), ok: 3, commits: 4},
		{what: "nothing at Base", index: 2, logTerm: 1, ok: 2, commits: 4},
		{what: "at Base with another term", index: 2, logTerm: 0, entries: rowOf(3, 1, 1, 4), told: rowOf(5, 4), ok: 5, commits: 4},
		{what: "at Base with a later term", index: 2, logTerm: 7, ok: 2, commits: 4},
		{what: "below Base", index: 1, logTerm: 6, ok: 2, commits: 4},
		{what: "below Base, up to it", index: 1, logTerm: 0, commit: 9, entries: rowOf(2, 1), ok: 2, commits: 4},
		{what: "another term at Base", index: 1, logTerm: 2, commit: 9, entries: rowOf(2, 2), ok: 2, commits: 4},
		{what: "from 0 on", index: 0, entries: rowOf(1, 1, 1, 1), ok: 3, commits: 4},
		{what: "from below Base to behind Commit", index: 0, entries: rowOf(1, 1, 1, 1, 1, 3, 5), told: rowOf(6, 5), ok: 6, commits: 4},
		{what: "from below Base to behind Last", index: 1, logTerm: 1, commit: 9, entries: rowOf(2, 1, 1, 1, 3, 3, 3, 5, 7), told: rowOf(9, 7), ok: 9, commits: 9},
	} {
		x.try(t)
	}
}

// P11.4, P11.6: entries that are others than what is committed: it follows, and there's nothing more.
func TestAppendAgainstCommit(t *testing.T) {
	for _, l := range []api.Msg{
		{Index: 2, LogTerm: 1, Entries: rowOf(3, 2)},
		{Index: 3, LogTerm: 1, Entries: rowOf(4, 3, 3)},
		{Index: 0, LogTerm: 0, Entries: rowOf(1, 1, 1, 1, 7)},
		{Index: 1, LogTerm: 4, Entries: rowOf(2, 4, 4)},
	} {
		c := sample(t)
		log := all(c)
		l.Kind, l.From, l.To, l.Term, l.Commit = api.Append, 2, 1, 7, 9
		want(t, "against Commit", c.Take(l, 9), api.Output{Hard: api.Hard{Term: 7}})
		want(t, "against Commit", c.View(), api.View{Leader: 2, Hard: api.Hard{Term: 7}, Base: api.Mark{Index: 2, Term: 1}, Last: 8, Commit: 4, Members: three})
		want(t, "against Commit", all(c), log)
		for range 2*api.Quiet - 2 {
			want(t, "a tick", c.Tick(0), api.Output{Hard: api.Hard{Term: 7}})
		}
		want(t, "the clock began anew", len(c.Tick(0).Msgs), 2)
	}
}

// P11.4: kinds and bytes play no part in whether the log has an entry; a Turn changes the members at once, and goes with its entry.
func TestAppendTurns(t *testing.T) {
	c := core(t, begin(three, api.Hard{Term: 2}, 1))
	other := api.Entry{Kind: api.Noop, Term: 1, Index: 1}
	turns := []api.Entry{other, turn(t, 1, 2, api.Add, 4), turn(t, 2, 3, api.Promote, 4)}
	o := c.Take(api.Msg{Kind: api.Append, From: 2, To: 1, Term: 2, Entries: turns}, 0)
	want(t, "what is added", o.Entries, turns[1:])
	want(t, "the log", all(c), append(rowOf(1, 1), turns[1:]...))
	want(t, "the members", c.View().Members, voters(1, 2, 3, 4))
	c.Take(api.Msg{Kind: api.Append, From: 3, To: 1, Term: 3, Index: 2, LogTerm: 1, Entries: rowOf(3, 3)}, 0)
	want(t, "without the second one", c.View().Members, api.Members{Voters: []int{1, 2, 3}, Learners: []int{4}})
	c.Take(api.Msg{Kind: api.Append, From: 3, To: 1, Term: 4, Index: 1, LogTerm: 1, Entries: rowOf(2, 4)}, 0)
	want(t, "without both", c.View().Members, three)
}

// P11.4: each role follows who sends entries in its term, but a leader, which does nothing.
func TestAppendToRoles(t *testing.T) {
	for name, c := range roles(t) {
		for _, kind := range []api.MsgKind{api.Append, api.Install} {
			m := api.Msg{Kind: kind, From: 3, To: 1, Term: 3, Index: 1, LogTerm: 2, Round: 5}
			if kind == api.Install {
				m.Data = snapOf(t, 1, 2, three)
			}
			f := c.Fork()
			before := probed(f, 1)
			hard := f.View().Hard
			o := f.Take(m, 0)
			if name == "a leader" {
				want(t, name, o, api.Output{Hard: hard})
				if probed(f, 1) != before {
					t.Error("a leader does something")
				}
				continue
			}
			want(t, name, o.Msgs, []api.Msg{{Kind: api.Say, From: 1, To: 3, Term: 3, Ok: true, Index: 1, Round: 5}})
			v := f.View()
			want(t, name, []any{v.Role, v.Leader, v.Hard}, []any{api.Follower, 3, hard})
			f.Take(pre(2, 4), 0)
			f.Take(vote(2, 3), 0)
			want(t, name+": voices are gone", f.View().Role, api.Follower)
		}
	}
}

// P11.4: Install at, below and above Commit, with and without an entry of its place.
func TestInstall(t *testing.T) {
	for _, x := range []struct {
		index, term int
		stay        []api.Entry
		done        bool
	}{
		{1, 1, nil, false}, {2, 1, nil, false}, {3, 2, nil, false}, {4, 1, nil, false},
		{5, 3, rowOf(6, 3, 3, 5), true}, {7, 3, rowOf(8, 5), true}, {8, 5, nil, true},
		{5, 2, nil, true}, {5, 4, nil, true}, {8, 6, nil, true}, {9, 5, nil, true}, {api.MaxNum / 2, 7, nil, true},
	} {
		c := sample(t)
		log := all(c)
		m := api.Members{Voters: []int{2, 5}, Learners: []int{7}}
		b := snapOf(t, x.index, x.term, m)
		got := c.Take(api.Msg{Kind: api.Install, From: 2, To: 1, Term: 7, Index: x.index, LogTerm: x.term, Commit: 8, Round: 12, Data: b}, 0)
		a := api.Msg{Kind: api.Say, From: 1, To: 2, Term: 7, Round: 12, Ok: true, Index: x.index}
		o := api.Output{Hard: api.Hard{Term: 7}}
		v := api.View{Leader: 2, Hard: api.Hard{Term: 7}, Base: api.Mark{Index: x.index, Term: x.term}, Last: x.index + len(x.stay), Commit: x.index, Members: m}
		if x.done {
			o.Snap = b
			log = x.stay
		} else {
			a.Index = 4
			v.Base, v.Last, v.Commit, v.Members = api.Mark{Index: 2, Term: 1}, 8, 4, three
		}
		o.Msgs = []api.Msg{a}
		want(t, "Install", got, o)
		want(t, "Install", c.View(), v)
		want(t, "Install", all(c), log)
	}
}

// P11.4, P11.8: behind an installed snapshot the log goes on, and a Turn that stays changes the snapshot's members.
func TestInstallGoesOn(t *testing.T) {
	s := begin(three, api.Hard{Term: 3}, 1)
	s.Entries = append(s.Entries, turn(t, 1, 2, api.Add, 4), turn(t, 2, 3, api.Add, 5), entry(3, 4))
	c := core(t, s)
	install := api.Msg{Kind: api.Install, From: 2, To: 1, Term: 3, Index: 2, LogTerm: 1, Data: snapOf(t, 2, 1, api.Members{Voters: []int{1, 2, 3}, Learners: []int{4}})}
	c.Take(install, 0)
	want(t, "what stays", all(c), s.Entries[2:])
	want(t, "the members", c.View().Members, api.Members{Voters: []int{1, 2, 3}, Learners: []int{4, 5}})
	o := c.Take(api.Msg{Kind: api.Append, From: 2, To: 1, Term: 3, Index: 3, LogTerm: 2, Entries: rowOf(4, 3, 3), Commit: 5}, 0)
	want(t, "what is added", o.Entries, rowOf(5, 3))
	want(t, "Commit", c.View().Commit, 5)
	o = c.Take(api.Msg{Kind: api.Install, From: 2, To: 1, Term: 3, Index: 9, LogTerm: 3, Data: snapOf(t, 9, 3, two)}, 0)
	want(t, "none stays", all(c), []api.Entry{})
	o = c.Take(api.Msg{Kind: api.Append, From: 2, To: 1, Term: 3, Index: 9, LogTerm: 3, Entries: rowOf(10, 3)}, 0)
	want(t, "it goes on", o.Entries, rowOf(10, 3))
	want(t, "it goes on", c.View(), api.View{Leader: 2, Hard: api.Hard{Term: 3}, Base: api.Mark{Index: 9, Term: 3}, Last: 10, Commit: 9, Members: two})
}

// P3: what Take was handed is not kept.
func TestTakeKeepsNothing(t *testing.T) {
	c := core(t, begin(three, api.Hard{Term: 1}))
	l := append(make([]api.Entry, 0, 5), rowOf(1, 1, 1)...)
	told := c.Take(api.Msg{Kind: api.Append, From: 2, To: 1, Term: 1, Entries: l}, 0).Entries
	spoil(l)
	want(t, "what is told", told, rowOf(1, 1, 1))
	spoil(told)
	want(t, "the log", all(c), rowOf(1, 1, 1))
	b := snapOf(t, 7, 1, two)
	o := c.Take(api.Msg{Kind: api.Install, From: 2, To: 1, Term: 1, Index: 7, LogTerm: 1, Data: b}, 0)
	spoilBytes(b)
	want(t, "the snapshot", o.Snap, snapOf(t, 7, 1, two))
	spoilBytes(o.Snap)
	want(t, "the members", c.View().Members, two)
}
