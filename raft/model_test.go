package raft_test

import (
	"bytes"
	"slices"

	"tollgate/api"
	"tollgate/member"
	"tollgate/snap"
	"tollgate/wire"
)

// model is a core by the chapter's words, told as plainly as can be: the log is a list from index 0 on, in which what a snapshot stands for is empty.
type model struct {
	id         int
	term, vote int
	base       int
	baseTerm   int
	baseWho    api.Members
	baseBytes  string
	log        []api.Entry // by index; up to base without meaning
	commit     int
	role       api.Role
	leader     int
	elapsed    int
	limit      int
	quiet      int
	beat       int
	yes        [api.MaxNode + 1]bool
	next       [api.MaxNode + 1]int
	match      [api.MaxNode + 1]int
	said       [api.MaxNode + 1]int
	round      int
	wait       []modelRead
	draw       int
	out        api.Output
}

type modelRead struct{ tag, index, round int }

func newModel(s api.Begin) *model {
	m := &model{id: s.Id, term: s.Hard.Term, vote: s.Hard.Vote, base: s.Base.Index, baseTerm: s.Base.Term, baseWho: s.Members, baseBytes: string(s.Snap), commit: s.Base.Index, quiet: api.Quiet}
	m.log = make([]api.Entry, s.Base.Index+1)
	m.log = append(m.log, s.Entries...)
	m.draw = s.Draw
	m.anew()
	return m
}

func (m *model) fork() *model {
	f := *m
	f.log = slices.Clone(m.log)
	f.wait = slices.Clone(m.wait)
	return &f
}

func (m *model) last() int { return len(m.log) - 1 }

func (m *model) at(i int) int {
	if i == m.base {
		return m.baseTerm
	}
	return m.log[i].Term
}

func (m *model) whoUpTo(index int) api.Members {
	who := m.baseWho
	for i := m.base + 1; i <= index; i++ {
		if m.log[i].Kind != api.Turn {
			continue
		}
		if x, e := member.GetChange(m.log[i].Data); e == api.OK {
			if after, e := member.Apply(who, x); e == api.OK {
				who = after
			}
		}
	}
	return who
}

func (m *model) who() api.Members { return m.whoUpTo(m.last()) }

func (m *model) isVoter() bool { return slices.Contains(m.who().Voters, m.id) }

func (m *model) isMember(n int) bool {
	return slices.Contains(m.who().Voters, n) || slices.Contains(m.who().Learners, n)
}

func (m *model) turnWaits() bool {
	for i := m.commit + 1; i <= m.last(); i++ {
		if m.log[i].Kind == api.Turn {
			return true
		}
	}
	return false
}

func (m *model) more(holds func(n int) bool) bool {
	n := 0
	for _, v := range m.who().Voters {
		if holds(v) {
			n++
		}
	}
	return 2*n > len(m.who().Voters)
}

func (m *model) enough() bool { return m.more(func(n int) bool { return m.yes[n] }) }

func (m *model) anew() {
	m.elapsed = 0
	rest := m.draw % api.Quiet
	if m.draw < 0 { // 2^64 leaves the rest 6
		rest = ((m.draw%api.Quiet + api.Quiet) + 6) % api.Quiet
	}
	m.limit = api.Quiet + rest
}

func (m *model) follow(term, leader int) {
	if term > m.term {
		m.term, m.vote = term, 0
	}
	m.role, m.leader = api.Follower, leader
	m.yes = [api.MaxNode + 1]bool{}
	m.wait = nil
}

func (m *model) post(kind api.MsgKind, to int, with func(x *api.Msg)) {
	x := api.Msg{Kind: kind, From: m.id, To: to, Term: m.term}
	if with != nil {
		with(&x)
	}
	m.out.Msgs = append(m.out.Msgs, x)
}

func (m *model) postTo(n int) {
	if m.next[n] <= m.base {
		m.post(api.Install, n, func(x *api.Msg) {
			x.Index, x.LogTerm, x.Data, x.Commit, x.Round = m.base, m.baseTerm, []byte(m.baseBytes), m.commit, m.round
		})
		return
	}
	m.post(api.Append, n, func(x *api.Msg) {
		x.Index, x.LogTerm, x.Commit, x.Round = m.next[n]-1, m.at(m.next[n]-1), m.commit, m.round
		for i := m.next[n]; i <= m.last() && len(x.Entries) < api.MaxBatch; i++ {
			x.Entries = append(x.Entries, m.log[i])
		}
	})
}

func (m *model) postAll() {
	for n := 1; n <= api.MaxNode; n++ {
		if n != m.id && m.isMember(n) {
			m.postTo(n)
		}
	}
}

func (m *model) askAll(kind api.MsgKind, term int) {
	for n := 1; n <= api.MaxNode; n++ {
		if n != m.id && slices.Contains(m.who().Voters, n) {
			m.post(kind, n, func(x *api.Msg) { x.Term, x.Index, x.LogTerm = term, m.last(), m.at(m.last()) })
		}
	}
}

func (m *model) ask() {
	m.role, m.leader, m.yes = api.Asker, 0, [api.MaxNode + 1]bool{}
	m.yes[m.id] = true
	if m.enough() {
		m.stand()
	} else {
		m.askAll(api.AskPre, m.term+1)
	}
}

func (m *model) stand() {
	m.term, m.vote, m.role, m.leader, m.yes = m.term+1, m.id, api.Candidate, 0, [api.MaxNode + 1]bool{}
	m.yes[m.id] = true
	m.anew()
	if m.enough() {
		m.lead()
	} else {
		m.askAll(api.AskVote, m.term)
	}
}

func (m *model) lead() {
	m.role, m.leader, m.beat, m.round, m.wait = api.Leader, m.id, 0, 0, nil
	for n := range m.next {
		m.next[n], m.match[n], m.said[n] = m.last()+1, 0, 0
	}
	m.added(api.Entry{Kind: api.Noop, Term: m.term, Index: m.last() + 1})
}

func (m *model) added(e api.Entry) {
	m.log = append(m.log, e)
	m.out.Entries = append(m.out.Entries, e)
	m.lookCommit()
	if m.role == api.Leader {
		m.postAll()
	}
}

func (m *model) lookCommit() {
	for n := m.last(); n > m.commit; n-- {
		if m.more(func(v int) bool { return v == m.id || m.match[v] >= n }) {
			if m.at(n) == m.term {
				m.commit = n
			}
			break
		}
	}
	if !m.isVoter() && !m.turnWaits() {
		m.follow(m.term, 0)
	}
}

func (m *model) lookReads() {
	var still []modelRead
	for _, r := range m.wait {
		if m.more(func(v int) bool { return v == m.id || m.said[v] >= r.round }) {
			m.out.Reads = append(m.out.Reads, api.Read{Tag: r.tag, Index: r.index})
		} else {
			still = append(still, r)
		}
	}
	m.wait = still
}

// step is what a step tells; with an error that and Hard alone.
func (m *model) step(draw int, do func() api.Errno) api.Output {
	m.draw, m.out = draw, api.Output{}
	if e := do(); e != api.OK {
		m.out = api.Output{E: e}
	}
	m.out.Hard = api.Hard{Term: m.term, Vote: m.vote}
	return m.out
}

func (m *model) tick(draw int) api.Output {
	return m.step(draw, func() api.Errno {
		if m.quiet < api.Quiet {
			m.quiet++
		}
		if m.role == api.Leader {
			if m.beat++; m.beat == api.Beat {
				m.beat = 0
				m.postAll()
			}
			return api.OK
		}
		if m.elapsed++; m.elapsed == m.limit {
			m.anew()
			if m.isVoter() {
				m.ask()
			}
		}
		return api.OK
	})
}

func (m *model) propose(data []byte) api.Output {
	return m.step(0, func() api.Errno {
		switch {
		case m.role != api.Leader:
			return api.ErrLeader
		case len(data) > api.MaxData:
			return api.ErrLimit
		case m.last()-m.base >= api.MaxLog:
			return api.ErrBusy
		}
		m.out.Index = m.last() + 1
		m.added(api.Entry{Kind: api.Data, Term: m.term, Index: m.last() + 1, Data: bytes.Clone(data)})
		return api.OK
	})
}

func (m *model) change(x api.Change) api.Output {
	return m.step(0, func() api.Errno {
		if m.role != api.Leader {
			return api.ErrLeader
		}
		if m.at(m.commit) != m.term || m.turnWaits() || m.last()-m.base >= api.MaxLog {
			return api.ErrBusy
		}
		if _, e := member.Apply(m.who(), x); e != api.OK {
			return e
		}
		if x.Do == api.Promote && m.match[x.Node] < m.commit {
			return api.ErrBusy
		}
		if !m.isMember(x.Node) {
			m.next[x.Node], m.match[x.Node], m.said[x.Node] = m.last()+1, 0, 0
		}
		m.out.Index = m.last() + 1
		b, _ := member.PutChange(x)
		m.added(api.Entry{Kind: api.Turn, Term: m.term, Index: m.last() + 1, Data: b})
		return api.OK
	})
}

func (m *model) read(tag int) api.Output {
	return m.step(0, func() api.Errno {
		if m.role != api.Leader {
			return api.ErrLeader
		}
		if m.at(m.commit) != m.term || len(m.wait) >= api.MaxReads {
			return api.ErrBusy
		}
		m.round++
		m.wait = append(m.wait, modelRead{tag, m.commit, m.round})
		m.lookReads()
		if slices.ContainsFunc(m.wait, func(r modelRead) bool { return r.round == m.round }) {
			m.postAll()
		}
		return api.OK
	})
}

func (m *model) may(x api.Msg) bool {
	if _, e := wire.PutMsg(x); e != api.OK || x.To != m.id || x.From == m.id {
		return false
	}
	for _, n := range []int{x.Term, x.Index, x.LogTerm, x.Commit} {
		if n > api.MaxNum/2 {
			return false
		}
	}
	if x.Kind == api.Append {
		term := x.LogTerm
		for i, e := range x.Entries {
			if e.Index != x.Index+1+i || e.Term < term || e.Term > x.Term {
				return false
			}
			term = e.Term
		}
	}
	if x.Kind == api.Install {
		s, e := snap.Get(x.Data)
		return e == api.OK && s.Mark.Index == x.Index && s.Mark.Term == x.LogTerm && x.LogTerm <= x.Term
	}
	return true
}

func (m *model) take(x api.Msg, draw int) api.Output {
	return m.step(draw, func() api.Errno {
		if !m.may(x) {
			return api.ErrArg
		}
		if x.Term > m.term && x.Kind != api.AskPre && !(x.Kind == api.SayPre && x.Ok) {
			m.follow(x.Term, 0)
		}
		round := func(a *api.Msg) { a.Round = x.Round }
		if x.Term < m.term {
			switch x.Kind {
			case api.AskPre:
				m.post(api.SayPre, x.From, nil)
			case api.AskVote:
				m.post(api.SayVote, x.From, nil)
			case api.Append, api.Install:
				m.post(api.Say, x.From, round)
			}
			return api.OK
		}
		m.takeKind(x)
		return api.OK
	})
}

func (m *model) takeKind(x api.Msg) {
	good := x.LogTerm > m.at(m.last()) || x.LogTerm == m.at(m.last()) && x.Index >= m.last()
	switch x.Kind {
	case api.AskPre:
		if x.Term > m.term && good && m.role != api.Leader && m.quiet == api.Quiet {
			m.post(api.SayPre, x.From, func(a *api.Msg) { a.Ok, a.Term = true, x.Term })
		} else {
			m.post(api.SayPre, x.From, nil)
		}
	case api.SayPre:
		if x.Ok && m.role == api.Asker && x.Term == m.term+1 {
			m.yes[x.From] = true
			if m.enough() {
				m.stand()
			}
		}
	case api.AskVote:
		ok := (m.vote == 0 || m.vote == x.From) && good
		if ok {
			m.vote = x.From
			m.anew()
		}
		m.post(api.SayVote, x.From, func(a *api.Msg) { a.Ok = ok })
	case api.SayVote:
		if x.Ok && m.role == api.Candidate && x.Term == m.term {
			m.yes[x.From] = true
			if m.enough() {
				m.lead()
			}
		}
	case api.Append, api.Install:
		if m.role == api.Leader {
			return
		}
		m.follow(m.term, x.From)
		m.quiet = 0
		m.anew()
		if x.Kind == api.Append {
			m.takeAppend(x)
		} else {
			m.takeInstall(x)
		}
	case api.Say:
		if m.role == api.Leader && x.Term == m.term && x.From != m.id && m.isMember(x.From) {
			m.takeSay(x)
		}
	}
}

func (m *model) takeAppend(x api.Msg) {
	if x.Index > m.base && (x.Index > m.last() || m.at(x.Index) != x.LogTerm) {
		hint := m.last() + 1
		if x.Index <= m.last() {
			hint = x.Index
			for h := x.Index; h > m.commit && m.at(h) == m.at(x.Index); h-- {
				hint = h
			}
		}
		m.post(api.Say, x.From, func(a *api.Msg) { a.Hint, a.Round = hint, x.Round })
		return
	}
	for _, e := range x.Entries {
		if e.Index > m.base && e.Index <= m.commit && m.at(e.Index) != e.Term {
			return
		}
	}
	for i, e := range x.Entries {
		if e.Index > m.base && (e.Index > m.last() || m.at(e.Index) != e.Term) {
			m.log = append(m.log[:e.Index:e.Index], x.Entries[i:]...)
			m.out.Entries = x.Entries[i:]
			break
		}
	}
	told := x.Index + len(x.Entries)
	if told < m.base {
		told = m.base
	}
	m.commit = max(m.commit, min(x.Commit, told))
	m.post(api.Say, x.From, func(a *api.Msg) { a.Ok, a.Index, a.Round = true, told, x.Round })
}

func (m *model) takeInstall(x api.Msg) {
	if x.Index > m.commit {
		s, _ := snap.Get(x.Data)
		var stay []api.Entry
		if x.Index <= m.last() && m.log[x.Index].Term == x.LogTerm {
			stay = m.log[x.Index+1:]
		}
		m.log = append(make([]api.Entry, x.Index+1), stay...)
		m.base, m.baseTerm, m.baseWho, m.baseBytes, m.commit = x.Index, x.LogTerm, s.Members, string(x.Data), x.Index
		m.out.Snap = x.Data
	}
	m.post(api.Say, x.From, func(a *api.Msg) { a.Ok, a.Index, a.Round = true, m.commit, x.Round })
}

func (m *model) takeSay(x api.Msg) {
	n := x.From
	if x.Round > m.said[n] && x.Round <= m.round {
		m.said[n] = x.Round
	}
	if !x.Ok {
		m.next[n] = max(m.match[n]+1, min(m.next[n], x.Hint))
		m.lookReads()
		m.postTo(n)
		return
	}
	m.match[n] = max(m.match[n], min(x.Index, m.last()))
	m.next[n] = max(m.next[n], m.match[n]+1)
	m.lookCommit()
	if m.role == api.Leader {
		m.lookReads()
		if m.match[n] < m.last() {
			m.postTo(n)
		}
	}
}

func (m *model) compact(index int, b []byte) api.Errno {
	if index <= m.base || index > m.commit {
		return api.ErrArg
	}
	s, e := snap.Get(b)
	if e != api.OK || s.Mark != (api.Mark{Index: index, Term: m.at(index)}) || shown(s.Members) != shown(m.whoUpTo(index)) {
		return api.ErrArg
	}
	m.baseWho, m.baseTerm, m.baseBytes = s.Members, m.at(index), string(b)
	m.base = index
	return api.OK
}

func (m *model) view() api.View {
	return api.View{Role: m.role, Leader: m.leader, Hard: api.Hard{Term: m.term, Vote: m.vote}, Base: api.Mark{Index: m.base, Term: m.baseTerm}, Last: m.last(), Commit: m.commit, Members: m.who()}
}

func (m *model) entries(from, to int) []api.Entry {
	var l []api.Entry
	for i := m.base + 1; i <= m.last(); i++ {
		if i >= from && i <= to {
			l = append(l, m.log[i])
		}
	}
	return l
}
