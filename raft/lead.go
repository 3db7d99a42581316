package raft

import (
	"bytes"
	"maps"
	"slices"

	"tollgate/api"
	"tollgate/member"
)

// leading is what a core has of a leader; match and said are 0 of a node that is not in them.
type leading struct {
	beat, round       int
	next, match, said map[int]int
	reads             []waiting
}

// waiting is a read that waits until enough nodes have said its round.
type waiting struct {
	api.Read
	round int
}

func (l *leading) fork() leading {
	fork := *l
	fork.next = maps.Clone(l.next)
	fork.match = maps.Clone(l.match)
	fork.said = maps.Clone(l.said)
	fork.reads = slices.Clone(l.reads)
	return fork
}

// expect: of a node nothing is known but that it is asked from that index on.
func (l *leading) expect(node, index int) {
	l.next[node] = index
	delete(l.match, node)
	delete(l.said, node)
}

// lead adds an entry of its own term at once: only by one of these it learns what is committed.
func (s *step) lead() {
	s.role = api.Leader
	s.leader = s.id
	s.yes = nil
	s.leading = leading{next: map[int]int{}, match: map[int]int{}, said: map[int]int{}}
	for i := range api.MaxNode {
		s.expect(i+1, s.last()+1)
	}
	s.add(api.Noop, nil)
}

// add adds an entry of its own term, and hands it on.
func (s *step) add(kind api.EntryKind, data []byte) {
	entry := api.Entry{Kind: kind, Term: s.hard.Term, Index: s.last() + 1, Data: data}
	s.keep([]api.Entry{entry})
	s.lookAtCommit()
	if s.leads() {
		s.sendToAll()
	}
}

// keep takes entries into the log and tells them: each has memory of its own.
func (s *step) keep(entries []api.Entry) {
	s.put(cloneEntries(entries))
	s.out.Entries = cloneEntries(entries)
}

func (s *step) sendToAll() {
	for _, n := range s.others(member.All(s.members())) {
		s.sendTo(n)
	}
}

func (s *step) sendTo(node int) {
	kind := api.Append
	if s.next[node] <= s.base.Index {
		kind = api.Install
	}
	m := s.message(kind, node)
	m.Commit = s.commit
	m.Round = s.round
	if kind == api.Install {
		m.Index, m.LogTerm = s.base.Index, s.base.Term
		m.Data = bytes.Clone(s.snap)
	} else {
		m.Index = s.next[node] - 1
		m.LogTerm = s.termAt(m.Index)
		m.Entries = s.between(s.next[node], m.Index+api.MaxBatch)
	}
	s.send(m)
}

// lookAtCommit: an elder term's entry counts only once one of its own term behind it does, for a later leader could still lack it.
func (s *step) lookAtCommit() {
	at := []api.At{{Node: s.id, Index: s.last()}}
	for _, n := range s.others(member.All(s.members())) {
		at = append(at, api.At{Node: n, Index: s.match[n]})
	}
	if n := member.Agreed(s.members(), at); n > s.commit && s.termAt(n) == s.hard.Term {
		s.commit = n
	}
	if !s.votes() && !s.turnBehind(s.commit) {
		s.follows(s.hard.Term, 0)
	}
}

func (s *step) lookAtReads() {
	wait := s.reads
	s.reads = nil
	for _, r := range wait {
		if s.passes(r) {
			s.out.Reads = append(s.out.Reads, r.Read)
		} else {
			s.reads = append(s.reads, r)
		}
	}
}

// passes: did enough nodes hear of it as the leader since the read was asked?
func (s *step) passes(r waiting) bool {
	heard := []int{s.id}
	for i := range api.MaxNode {
		if s.said[i+1] >= r.round {
			heard = append(heard, i+1)
		}
	}
	return member.Quorum(s.members(), heard)
}

// ownCommit: is what is committed as new as its term? Until then others may have committed more.
func (c *Core) ownCommit() bool { return c.termAt(c.commit) == c.hard.Term }
