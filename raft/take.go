package raft

import (
	"slices"

	"tollgate/api"
	"tollgate/member"
	"tollgate/snap"
)

// Take takes a message.
func (c *Core) Take(m api.Msg, draw int) api.Output {
	return c.stepped(draw, func(s *step) api.Errno {
		if !s.mayTake(m) {
			return api.ErrArg
		}
		s.take(m)
		return api.OK
	})
}

func (s *step) take(m api.Msg) {
	// Who asks ahead of voting, and who says yes to that, names a term that nobody has yet.
	ahead := m.Kind == api.AskPre || m.Kind == api.SayPre && m.Ok
	if m.Term > s.hard.Term && !ahead {
		s.follows(m.Term, 0)
	}
	if m.Term < s.hard.Term {
		s.refuse(m)
		return
	}
	switch m.Kind {
	case api.AskPre:
		s.takeAskPre(m)
	case api.SayPre:
		s.takeSayPre(m)
	case api.AskVote:
		s.takeAskVote(m)
	case api.SayVote:
		s.takeSayVote(m)
	case api.Append, api.Install:
		s.takeLeaders(m)
	case api.Say:
		s.takeSay(m)
	}
}

// refuse answers what asks; the answer's term is what ends the other one's.
func (s *step) refuse(m api.Msg) {
	switch m.Kind {
	case api.AskPre:
		s.send(s.message(api.SayPre, m.From))
	case api.AskVote:
		s.send(s.message(api.SayVote, m.From))
	case api.Append, api.Install:
		s.say(m, api.Msg{})
	}
}

// say answers a leader: with its round, by which it knows that it was heard since.
func (s *step) say(to, what api.Msg) {
	m := s.message(api.Say, to.From)
	m.Round = to.Round
	m.Ok, m.Index, m.Hint = what.Ok, what.Index, what.Hint
	s.send(m)
}

// asGood: does who asks for a vote have all that the core has?
func (s *step) asGood(m api.Msg) bool {
	end := s.end()
	return m.LogTerm > end.Term || m.LogTerm == end.Term && m.Index >= end.Index
}

// takeAskPre says no as long as a leader is heard, so that who hears it not can't end its term.
func (s *step) takeAskPre(m api.Msg) {
	a := s.message(api.SayPre, m.From)
	if m.Term > s.hard.Term && s.asGood(m) && !s.leads() && s.quiet == api.Quiet {
		a.Term = m.Term
		a.Ok = true
	}
	s.send(a)
}

func (s *step) takeSayPre(m api.Msg) {
	if m.Ok && s.role == api.Asker && m.Term == s.hard.Term+1 && s.isYes(m.From) {
		s.stand()
	}
}

func (s *step) takeAskVote(m api.Msg) {
	a := s.message(api.SayVote, m.From)
	if (s.hard.Vote == 0 || s.hard.Vote == m.From) && s.asGood(m) {
		s.hard.Vote = m.From
		s.beginAnew(s.draw)
		a.Ok = true
	}
	s.send(a)
}

func (s *step) takeSayVote(m api.Msg) {
	if m.Ok && s.role == api.Candidate && s.isYes(m.From) {
		s.lead()
	}
}

// takeLeaders takes what only a leader of this term sends.
func (s *step) takeLeaders(m api.Msg) {
	if s.leads() {
		return
	}
	s.follows(s.hard.Term, m.From)
	s.quiet = 0
	s.beginAnew(s.draw)
	if m.Kind == api.Append {
		s.takeAppend(m)
	} else {
		s.takeInstall(m)
	}
}

func (s *step) takeAppend(m api.Msg) {
	if m.Index > s.base.Index && !s.has(placeOf(m)) {
		s.say(m, api.Msg{Hint: s.hint(m.Index, s.commit)})
		return
	}
	if s.deniesCommitted(m.Entries) {
		return
	}
	if fresh := s.fresh(m.Entries); len(fresh) > 0 {
		s.keep(fresh)
	}
	told := max(s.base.Index, m.Index+len(m.Entries))
	s.commit = max(s.commit, min(m.Commit, told))
	s.say(m, api.Msg{Ok: true, Index: told})
}

// deniesCommitted: would entries put others in the place of what is committed?
func (s *step) deniesCommitted(entries []api.Entry) bool {
	return slices.ContainsFunc(entries, func(e api.Entry) bool {
		return e.Index > s.base.Index && e.Index <= s.commit && e.Term != s.termAt(e.Index)
	})
}

// fresh are the entries from the first one on that the log has not.
func (s *step) fresh(entries []api.Entry) []api.Entry {
	at := slices.IndexFunc(entries, func(e api.Entry) bool {
		return e.Index > s.base.Index && !s.has(api.Mark{Index: e.Index, Term: e.Term})
	})
	if at < 0 {
		return nil
	}
	return entries[at:]
}

func (s *step) takeInstall(m api.Msg) {
	if m.Index <= s.commit {
		s.say(m, api.Msg{Ok: true, Index: s.commit})
		return
	}
	got, _ := snap.Get(m.Data)
	s.rebase(got.Mark, got.Members, m.Data)
	s.commit = m.Index
	s.out.Snap = slices.Clone(m.Data)
	s.say(m, api.Msg{Ok: true, Index: m.Index})
}

func (s *step) takeSay(m api.Msg) {
	if !s.leads() || !slices.Contains(member.All(s.members()), m.From) {
		return
	}
	if m.Round > s.said[m.From] && m.Round <= s.round {
		s.said[m.From] = m.Round
	}
	if m.Ok {
		s.takeYes(m)
	} else {
		s.takeNo(m)
	}
}

func (s *step) takeYes(m api.Msg) {
	match := max(s.match[m.From], min(m.Index, s.last()))
	s.match[m.From] = match
	s.next[m.From] = max(s.next[m.From], match+1)
	s.lookAtCommit()
	if !s.leads() {
		return
	}
	s.lookAtReads()
	if match < s.last() {
		s.sendTo(m.From)
	}
}

// takeNo goes back to where the node says, but not into what it said yes to.
func (s *step) takeNo(m api.Msg) {
	s.next[m.From] = max(s.match[m.From]+1, min(s.next[m.From], m.Hint))
	s.lookAtReads()
	s.sendTo(m.From)
}
