package raft

import (
	"slices"

	"tollgate/api"
	"tollgate/member"
)

// clock is counts of ticks: since it began anew, after how many time runs out, and since a leader was heard.
type clock struct {
	elapsed, limit, quiet int
}

func (k *clock) beginAnew(draw int) {
	k.elapsed = 0
	k.limit = api.Quiet + int(uint64(draw)%api.Quiet)
}

// tick: has the time run out?
func (k *clock) tick() bool {
	k.elapsed++
	return k.elapsed == k.limit
}

// step is a call's work on a core: the draw that it came with, and what it tells.
type step struct {
	*Core
	draw int
	out  api.Output
}

// stepped is what a step tells. One that is refused tells the core's Hard too, so that whoever keeps what a step tells never forgets a term or a vote.
func (c *Core) stepped(draw int, do func(s *step) api.Errno) api.Output {
	if c == nil {
		return api.Output{E: api.ErrNil}
	}
	s := &step{Core: c, draw: draw}
	if e := do(s); e != api.OK {
		return api.Output{E: e, Hard: c.hard}
	}
	s.out.Hard = c.hard
	return s.out
}

// Tick is one of the clock.
func (c *Core) Tick(draw int) api.Output {
	return c.stepped(draw, func(s *step) api.Errno {
		s.quiet = min(s.quiet+1, api.Quiet)
		if s.leads() {
			s.beats()
		} else {
			s.waits()
		}
		return api.OK
	})
}

func (s *step) beats() {
	s.beat++
	if s.beat == api.Beat {
		s.beat = 0
		s.sendToAll()
	}
}

func (s *step) waits() {
	if !s.tick() {
		return
	}
	s.beginAnew(s.draw)
	if s.votes() {
		s.ask()
	}
}

// message is one without anything but what all have.
func (s *step) message(kind api.MsgKind, to int) api.Msg {
	return api.Msg{Kind: kind, From: s.id, To: to, Term: s.hard.Term}
}

func (s *step) send(m api.Msg) { s.out.Msgs = append(s.out.Msgs, m) }

// isYes adds a node to those that said yes, and tells whether they are enough.
func (s *step) isYes(node int) bool {
	if !slices.Contains(s.yes, node) {
		s.yes = append(s.yes, node)
	}
	return member.Quorum(s.members(), s.yes)
}

// ask asks whether it would be voted for: one that would not be must not raise its term, by which it would end a leader's.
func (s *step) ask() {
	s.role = api.Asker
	s.leader = 0
	s.yes = nil
	if s.isYes(s.id) {
		s.stand()
		return
	}
	s.askVoters(api.AskPre, s.hard.Term+1)
}

func (s *step) stand() {
	s.hard = api.Hard{Term: s.hard.Term + 1, Vote: s.id}
	s.role = api.Candidate
	s.leader = 0
	s.yes = nil
	s.beginAnew(s.draw)
	if s.isYes(s.id) {
		s.lead()
		return
	}
	s.askVoters(api.AskVote, s.hard.Term)
}

func (s *step) askVoters(kind api.MsgKind, term int) {
	end := s.end()
	for _, n := range s.others(s.members().Voters) {
		m := s.message(kind, n)
		m.Term = term
		m.Index, m.LogTerm = end.Index, end.Term
		s.send(m)
	}
}
